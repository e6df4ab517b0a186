package tests

import (
	"bytes"
	"math"
	"runtime"
	"sync"
	"testing"
	"time"

	"loop.example/s02972/impl"
)

// The document's words, byte by byte and bit by bit.

func plainAdler(a uint32, b []byte) uint32 {
	s1, s2 := uint64(a%65536%65521), uint64(a/65536%65521)
	for _, x := range b {
		s1 = (s1 + uint64(x)) % 65521
		s2 = (s2 + s1) % 65521
	}
	return uint32(s2*65536 + s1)
}

func plainZeros(c uint32, bits int64) uint32 {
	for range bits {
		if c&1 == 1 {
			c = c>>1 ^ 0xedb88320
		} else {
			c = c >> 1
		}
	}
	return c
}

func plainCrc(c uint32, b []byte) uint32 {
	c = 0xffffffff - c
	for _, x := range b {
		c = plainZeros(c^uint32(x), 8)
	}
	return 0xffffffff - c
}

func plainAdlerJoin(a, b uint32, n int64) uint32 {
	a1, a2 := int64(a%65536%65521), int64(a/65536%65521)
	b1, b2 := int64(b%65536%65521), int64(b/65536%65521)
	low, high := (a1+b1-1)%65521, (a2+b2+n*(a1-1))%65521
	if low < 0 {
		low += 65521
	}
	if high < 0 {
		high += 65521
	}
	return uint32(high*65536 + low)
}

// Halves of 0, of 65520, and of 65521 and above.
var startingSums = []uint32{0, 1, 0x0000fff0, 0xfff00000, 0xfff0fff0, 0xfff1fff1, 0xfff1fff0, 0xfff0fff1, 0xfff2ffff, 0xffffffff, 0x11e60398, 0xcbf43926, 0x80000000}

// Lengths on both sides of every border that a way of summing may have: words of eight, tables, delayed moduli, parts, JoinMax.
func shortLengths() []int {
	var ns []int
	for n := 0; n <= 70; n++ {
		ns = append(ns, n)
	}
	for _, n := range []int{128, 256, 512, 1024, 4096, 5552, 11104, 16384} {
		ns = append(ns, n-1, n, n+1, n+7, n+8)
	}
	return ns
}

func longLengths() []int {
	return []int{32768, 65535, 65536, 65537, 65544, 100000, 131071, 131072, 131073, 200003, 999999, 1000000, 1000001, 1048577}
}

func sampleTexts(n int) map[string][]byte {
	return map[string][]byte{"zeros": make([]byte, n), "255s": bytes.Repeat([]byte{255}, n), "noise": noiseText(uint64(n), n)}
}

func checkSums(t *testing.T, kind string, a uint32, b []byte) {
	t.Helper()
	if got, want := impl.AdlerUpdate(a, b), plainAdler(a, b); got != want {
		t.Errorf("Adler-32 of %d %s from %#x: %#x, not %#x", len(b), kind, a, got, want)
	}
	if got, want := impl.CrcUpdate(a, b), plainCrc(a, b); got != want {
		t.Errorf("CRC-32 of %d %s from %#x: %#x, not %#x", len(b), kind, a, got, want)
	}
}

func TestSumsOfKnownTexts(t *testing.T) {
	if got := impl.CrcUpdate(0, []byte("123456789")); got != 0xcbf43926 {
		t.Errorf("CRC-32 of 123456789: %#x", got)
	}
	if got := impl.AdlerUpdate(1, []byte("Wikipedia")); got != 0x11e60398 {
		t.Errorf("Adler-32 of Wikipedia: %#x", got)
	}
	if impl.AdlerUpdate(1, nil) != 1 || impl.AdlerUpdate(1, []byte{}) != 1 || impl.CrcUpdate(0, nil) != 0 || impl.CrcUpdate(0, []byte{}) != 0 {
		t.Errorf("sums of no text")
	}
}

func TestSumsOfShortTexts(t *testing.T) {
	for _, n := range shortLengths() {
		for kind, text := range sampleTexts(n) {
			for _, a := range startingSums {
				checkSums(t, kind, a, text)
			}
		}
	}
}

func TestSumsOfLongTexts(t *testing.T) {
	for _, n := range longLengths() {
		for kind, text := range sampleTexts(n) {
			for _, a := range []uint32{0, 1, 0xfff0fff0, 0xffffffff} {
				checkSums(t, kind, a, text)
			}
		}
	}
}

func TestSumOfTextManyTimesJoinMax(t *testing.T) {
	text := noiseText(3, 3*impl.JoinMax+17)
	checkSums(t, "noise", 0xfffffffe, text)
}

// No text at all still takes the halves of an Adler-32 down, and leaves a CRC-32 alone.
func TestSumsOfNoTextFromAnySum(t *testing.T) {
	for _, a := range startingSums {
		if got, want := impl.AdlerUpdate(a, nil), plainAdler(a, nil); got != want {
			t.Errorf("Adler-32 from %#x: %#x, not %#x", a, got, want)
		}
		if got := impl.CrcUpdate(a, nil); got != a {
			t.Errorf("CRC-32 from %#x: %#x", a, got)
		}
	}
}

func checkCut(t *testing.T, a uint32, text []byte, at int) {
	t.Helper()
	head, tail := text[:at], text[at:]
	adler, crc := impl.AdlerUpdate(a, text), impl.CrcUpdate(a, text)
	if got := impl.AdlerUpdate(impl.AdlerUpdate(a, head), tail); got != adler {
		t.Errorf("Adler-32 of %d bytes from %#x, cut at %d: %#x, not %#x", len(text), a, at, got, adler)
	}
	if got := impl.CrcUpdate(impl.CrcUpdate(a, head), tail); got != crc {
		t.Errorf("CRC-32 of %d bytes from %#x, cut at %d: %#x, not %#x", len(text), a, at, got, crc)
	}
	if len(tail) > impl.JoinMax {
		return
	}
	n := int64(len(tail))
	if got := impl.AdlerJoin(impl.AdlerUpdate(a, head), impl.AdlerUpdate(1, tail), n); got != adler {
		t.Errorf("Adler-32 of %d bytes from %#x, joined at %d: %#x, not %#x", len(text), a, at, got, adler)
	}
	if got := impl.CrcJoin(impl.CrcUpdate(a, head), impl.CrcUpdate(0, tail), n); got != crc {
		t.Errorf("CRC-32 of %d bytes from %#x, joined at %d: %#x, not %#x", len(text), a, at, got, crc)
	}
}

func TestEveryCutOfShortText(t *testing.T) {
	text := noiseText(11, 1100)
	for at := 0; at <= len(text); at++ {
		for _, a := range startingSums {
			checkCut(t, a, text, at)
		}
	}
}

func TestCutsOfLongText(t *testing.T) {
	text := noiseText(12, impl.JoinMax+70000)
	n := len(text)
	for _, at := range []int{0, 1, 8, 255, 65535, 65536, 65537, 70000, 70001, 131072, n / 2, n - 65537, n - 65536, n - 1, n} {
		for _, a := range []uint32{0, 1, 0xffffffff} {
			checkCut(t, a, text, at)
		}
	}
}

func TestTextInManyParts(t *testing.T) {
	text := noiseText(13, 300000)
	g := noise{14}
	adler, crc := uint32(1), uint32(0)
	for rest := text; len(rest) > 0; {
		n := min(g.below(90000), int64(len(rest)))
		adler, crc = impl.AdlerUpdate(adler, rest[:n]), impl.CrcUpdate(crc, rest[:n])
		rest = rest[n:]
	}
	if adler != plainAdler(1, text) || crc != plainCrc(0, text) {
		t.Errorf("sums of parts in turn: %#x %#x", adler, crc)
	}
}

func TestJoinsOfAnySums(t *testing.T) {
	for _, n := range []int64{0, 1, 2, 3, 7, 8, 255, 256, 65520, 65521, 65522, 65536} {
		for _, a := range startingSums {
			zeros := plainZeros(a, 8*n)
			for _, b := range startingSums {
				if got, want := impl.AdlerJoin(a, b, n), plainAdlerJoin(a, b, n); got != want {
					t.Errorf("AdlerJoin(%#x, %#x, %d): %#x, not %#x", a, b, n, got, want)
				}
				if got, want := impl.CrcJoin(a, b, n), zeros^b; got != want {
					t.Errorf("CrcJoin(%#x, %#x, %d): %#x, not %#x", a, b, n, got, want)
				}
			}
		}
	}
}

func TestJoinsAtTheLimit(t *testing.T) {
	for _, n := range []int64{impl.JoinMax - 1, impl.JoinMax} {
		for _, a := range startingSums {
			if got, want := impl.AdlerJoin(a, 0xfff0fff0, n), plainAdlerJoin(a, 0xfff0fff0, n); got != want {
				t.Errorf("AdlerJoin(%#x, 0xfff0fff0, %d): %#x, not %#x", a, n, got, want)
			}
			if got, want := impl.CrcJoin(a, 5, n), plainZeros(a, 8*n)^5; got != want {
				t.Errorf("CrcJoin(%#x, 5, %d): %#x, not %#x", a, n, got, want)
			}
		}
	}
	head, tail := noiseText(15, 1000), noiseText(16, impl.JoinMax)
	checkCut(t, 1, append(head, tail...), len(head))
}

func TestJoinsOutsideTheLimit(t *testing.T) {
	for _, n := range []int64{-1, -8, math.MinInt64, impl.JoinMax + 1, 1 << 32, 1<<61 + 1, math.MaxInt64} {
		for _, a := range startingSums {
			if impl.AdlerJoin(a, 0x12345678, n) != 0 || impl.CrcJoin(a, 0x12345678, n) != 0 {
				t.Errorf("joins of %#x with length %d are not 0", a, n)
			}
		}
	}
}

// The halves of zero on both sides make the lower one negative before it is taken up.
func TestAdlerJoinBelowZero(t *testing.T) {
	if got := impl.AdlerJoin(0, 0, 0); got != 65520 {
		t.Errorf("AdlerJoin(0, 0, 0): %#x", got)
	}
	if got := impl.AdlerJoin(0, 0, 1); got != 65520*65536+65520 {
		t.Errorf("AdlerJoin(0, 0, 1): %#x", got)
	}
	if got := impl.AdlerJoin(65521, 65521, impl.JoinMax); got != plainAdlerJoin(0, 0, impl.JoinMax) {
		t.Errorf("AdlerJoin(65521, 65521, JoinMax): %#x", got)
	}
}

func TestSumsUnderEverySchedule(t *testing.T) {
	text := noiseText(17, 700001)
	adler, crc := plainAdler(1, text), plainCrc(0, text)
	defer runtime.GOMAXPROCS(runtime.GOMAXPROCS(0))
	for _, cores := range []int{1, 2, 8} {
		runtime.GOMAXPROCS(cores)
		var wait sync.WaitGroup
		for range 16 {
			wait.Add(1)
			go func() {
				defer wait.Done()
				if impl.AdlerUpdate(1, text) != adler || impl.CrcUpdate(0, text) != crc {
					t.Errorf("sums differ on %d cores", cores)
				}
			}()
		}
		wait.Wait()
	}
}

func TestSumsEndTheirGoroutines(t *testing.T) {
	text := noiseText(18, 700001)
	before := runtime.NumGoroutine()
	for range 20 {
		impl.AdlerUpdate(1, text)
		impl.CrcUpdate(0, text)
	}
	// A goroutine that has said Done may still be on its way out.
	for range 1000 {
		if runtime.NumGoroutine() <= before {
			return
		}
		time.Sleep(time.Millisecond)
	}
	t.Errorf("%d goroutines before, %d after", before, runtime.NumGoroutine())
}

func TestSumsLeaveTheTextAlone(t *testing.T) {
	for _, n := range []int{0, 1, 511, 512, 65536, 65537, 200000} {
		g := guard(noiseText(19, n))
		impl.AdlerUpdate(1, g.arg())
		impl.CrcUpdate(0, g.arg())
		g.check(t, "sums")
	}
}
