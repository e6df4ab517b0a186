package tests

import (
	"bytes"
	"math"
	"testing"

	"loop.example/s02972/impl"
)

const usedLimit = 8 * 4294967296

func sameBits(a, b impl.Bits) bool {
	return a.At == b.At && a.Used == b.Used && bytes.Equal(a.Held, b.Held)
}

func zeroBits(r impl.Bits) bool {
	return sameBits(r, impl.Bits{})
}

// plainReader is the reader over all bytes fed so far, after that many bits.
func plainReader(fed []byte, used int64) impl.Bits {
	return impl.Bits{Held: fed[used/8:], At: used % 8, Used: used}
}

// plainTake reads one bit after the other.
func plainTake(fed []byte, used int64, n int64) uint64 {
	val := uint64(0)
	for i := range n {
		at := used + i
		val |= uint64(fed[at/8]>>(at%8)&1) << i
	}
	return val
}

func checkReader(t *testing.T, what string, got, want impl.Bits) {
	t.Helper()
	if !sameBits(got, want) {
		t.Errorf("%s: At %d, Used %d, %d held; not At %d, Used %d, %d held (or other bytes)", what, got.At, got.Used, len(got.Held), want.At, want.Used, len(want.Held))
	}
	if !impl.ValidBits(got) {
		t.Errorf("%s: the answer is not a valid reader", what)
	}
}

func invalidReaders() map[string]impl.Bits {
	full := make([]byte, impl.HeldMax+1)
	return map[string]impl.Bits{
		"At below 0":                   {Held: []byte{1}, At: -1, Used: -1},
		"At below 0, Used as asked":    {Held: []byte{1}, At: -1, Used: 7},
		"At -8, Used 0":                {Held: []byte{1}, At: -8, Used: 0},
		"At above 7":                   {Held: []byte{1, 2}, At: 8, Used: 8},
		"At far above 7":               {Held: []byte{1, 2}, At: math.MaxInt64, Used: 7},
		"At without a byte":            {At: 3, Used: 3},
		"At without a byte, not nil":   {Held: []byte{}, At: 7, Used: 15},
		"Held above HeldMax":           {Held: full},
		"Used below 0":                 {Held: []byte{1}, Used: -8},
		"Used far below 0":             {Held: []byte{1}, Used: math.MinInt64},
		"Used above its limit":         {Held: []byte{1}, Used: usedLimit + 8},
		"Used above its limit, At 1":   {Held: []byte{1}, At: 1, Used: usedLimit + 1},
		"Used is not At":               {Held: []byte{1}, At: 1, Used: 2},
		"Used is not 0":                {Held: []byte{1}, At: 0, Used: 15},
		"Used is not At, nothing held": {Used: 4},
	}
}

func TestValidBits(t *testing.T) {
	for what, r := range invalidReaders() {
		if impl.ValidBits(r) {
			t.Errorf("%s: valid", what)
		}
	}
	valid := []impl.Bits{
		{}, {Held: []byte{}}, {Used: 8}, {Used: usedLimit}, {Held: []byte{1}, Used: usedLimit},
		{Held: []byte{1}, At: 7, Used: 7}, {Held: []byte{1}, At: 7, Used: usedLimit - 1}, {Held: []byte{1, 2}, At: 1, Used: 801},
		{Held: make([]byte, impl.HeldMax)}, {Held: make([]byte, impl.HeldMax), At: 5, Used: 13},
	}
	for i, r := range valid {
		if !impl.ValidBits(r) {
			t.Errorf("reader %d is not valid", i)
		}
	}
}

func TestReadersThatAreNotValid(t *testing.T) {
	for what, r := range invalidReaders() {
		if !zeroBits(impl.BitsFeed(r, []byte{1, 2})) || !zeroBits(impl.BitsFeed(r, nil)) || !zeroBits(impl.BitsAlign(r)) {
			t.Errorf("%s: BitsFeed or BitsAlign is not the zero Bits", what)
		}
		for _, n := range []int64{-1, 0, 1, 32, 33} {
			if a := impl.BitsTake(r, n); a.Ok || a.Val != 0 || !zeroBits(a.Bits) {
				t.Errorf("%s: BitsTake of %d is not zero", what, n)
			}
			if a := impl.BitsBytes(r, n); a.Ok || len(a.Data) != 0 || !zeroBits(a.Bits) {
				t.Errorf("%s: BitsBytes of %d is not zero", what, n)
			}
		}
	}
}

func TestFeedPutsChunksAtTheEnd(t *testing.T) {
	r := impl.BitsFeed(impl.Bits{}, []byte{1, 2})
	r = impl.BitsFeed(r, nil)
	r = impl.BitsFeed(r, []byte{})
	r = impl.BitsFeed(r, []byte{3})
	checkReader(t, "three chunks", r, impl.Bits{Held: []byte{1, 2, 3}})
	r = impl.BitsFeed(impl.BitsTake(r, 13).Bits, []byte{4, 5})
	checkReader(t, "fed within a byte", r, impl.Bits{Held: []byte{2, 3, 4, 5}, At: 5, Used: 13})
	checkReader(t, "fed at the limit of Used", impl.BitsFeed(impl.Bits{Used: usedLimit}, []byte{9}), impl.Bits{Held: []byte{9}, Used: usedLimit})
}

func TestFeedUpToHeldMax(t *testing.T) {
	text := noiseText(21, impl.HeldMax)
	nearly := impl.Bits{Held: text[:impl.HeldMax-2], At: 3, Used: 11}
	full := impl.Bits{Held: text, At: 3, Used: 11}
	checkReader(t, "one byte below", impl.BitsFeed(nearly, text[impl.HeldMax-2:impl.HeldMax-1]), impl.Bits{Held: text[:impl.HeldMax-1], At: 3, Used: 11})
	checkReader(t, "just full", impl.BitsFeed(nearly, text[impl.HeldMax-2:]), full)
	checkReader(t, "one byte too many", impl.BitsFeed(nearly, []byte{1, 2, 3}), nearly)
	checkReader(t, "full and nothing", impl.BitsFeed(full, nil), full)
	checkReader(t, "full and one byte", impl.BitsFeed(full, []byte{1}), full)
	checkReader(t, "HeldMax at once", impl.BitsFeed(impl.Bits{}, text), impl.Bits{Held: text})
	checkReader(t, "more than HeldMax at once", impl.BitsFeed(impl.Bits{Used: 16}, append(text, 1)), impl.Bits{Used: 16})
}

func TestFullReaderIsRead(t *testing.T) {
	text := noiseText(22, impl.HeldMax)
	r := impl.Bits{Held: text, At: 3, Used: 3}
	a := impl.BitsTake(r, 32)
	if !a.Ok || a.Val != plainTake(text, 3, 32) {
		t.Errorf("32 bits of a full reader: %v %#x", a.Ok, a.Val)
	}
	checkReader(t, "32 bits taken", a.Bits, plainReader(text, 35))
	checkReader(t, "aligned", impl.BitsAlign(r), plainReader(text, 8))
	all := impl.BitsBytes(impl.Bits{Held: text}, impl.HeldMax)
	if !all.Ok || !bytes.Equal(all.Data, text) {
		t.Errorf("all bytes of a full reader: %v, %d bytes", all.Ok, len(all.Data))
	}
	checkReader(t, "all bytes taken", all.Bits, impl.Bits{Used: 8 * impl.HeldMax})
}

func TestTakeOfEveryNumberAtEveryBit(t *testing.T) {
	for _, text := range [][]byte{noiseText(23, 6), {0xb5, 0x0f, 0xff, 0, 0x80, 1}, bytes.Repeat([]byte{255}, 6)} {
		for start := int64(0); start < 48; start++ {
			for n := int64(0); n <= 32; n++ {
				r := plainReader(text, start)
				a := impl.BitsTake(r, n)
				if start+n > 48 {
					if a.Ok || a.Val != 0 {
						t.Errorf("bit %d: %d bits that are not there are taken", start, n)
					}
					checkReader(t, "too few bits", a.Bits, r)
					continue
				}
				if !a.Ok || a.Val != plainTake(text, start, n) {
					t.Errorf("bit %d: %d bits: %v %#x", start, n, a.Ok, a.Val)
				}
				checkReader(t, "taken", a.Bits, plainReader(text, start+n))
			}
		}
	}
}

func TestTakesOutsideTheirBounds(t *testing.T) {
	r := impl.Bits{Held: noiseText(24, 40), At: 2, Used: 10}
	for _, n := range []int64{-1, -2, -32, 33, 64, 1 << 32, math.MinInt64, math.MaxInt64, math.MaxInt64 - 7} {
		a := impl.BitsTake(r, n)
		if a.Ok || a.Val != 0 {
			t.Errorf("%d bits are taken", n)
		}
		checkReader(t, "odd number of bits", a.Bits, r)
	}
	empty := impl.BitsTake(impl.Bits{}, 0)
	if !empty.Ok || empty.Val != 0 || !zeroBits(empty.Bits) {
		t.Errorf("no bits of an empty reader: %+v", empty)
	}
	if a := impl.BitsTake(impl.Bits{}, 1); a.Ok || !zeroBits(a.Bits) {
		t.Errorf("one bit of an empty reader: %+v", a)
	}
}

func TestAlignAtEveryBit(t *testing.T) {
	text := noiseText(25, 3)
	for start := int64(0); start < 24; start++ {
		checkReader(t, "aligned", impl.BitsAlign(plainReader(text, start)), plainReader(text, (start+7)/8*8))
	}
	checkReader(t, "empty", impl.BitsAlign(impl.Bits{}), impl.Bits{})
	checkReader(t, "empty, but used", impl.BitsAlign(impl.Bits{Used: 80}), impl.Bits{Used: 80})
}

func TestBytes(t *testing.T) {
	text := noiseText(26, 9)
	r := impl.Bits{Held: text, Used: 80}
	for n := int64(0); n <= 9; n++ {
		a := impl.BitsBytes(r, n)
		if !a.Ok || !bytes.Equal(a.Data, text[:n]) {
			t.Errorf("%d bytes: %v %x", n, a.Ok, a.Data)
		}
		checkReader(t, "bytes taken", a.Bits, impl.Bits{Held: text[n:], Used: 80 + 8*n})
	}
	for _, n := range []int64{-1, 10, 1 << 33, 1 << 61, 1<<61 + 1, 1 << 62, math.MinInt64, math.MaxInt64} {
		a := impl.BitsBytes(r, n)
		if a.Ok || len(a.Data) != 0 {
			t.Errorf("%d bytes: %v %x", n, a.Ok, a.Data)
		}
		checkReader(t, "bytes that are not there", a.Bits, r)
	}
	if a := impl.BitsBytes(impl.Bits{}, 0); !a.Ok || len(a.Data) != 0 || !zeroBits(a.Bits) {
		t.Errorf("no bytes of an empty reader: %+v", a)
	}
}

func TestBytesWithinAByte(t *testing.T) {
	text := noiseText(27, 9)
	for at := int64(1); at < 8; at++ {
		r := plainReader(text, at)
		for _, n := range []int64{-1, 0, 1, 8, 9, 10} {
			a := impl.BitsBytes(r, n)
			if a.Ok || len(a.Data) != 0 {
				t.Errorf("bit %d: %d bytes are taken", at, n)
			}
			checkReader(t, "within a byte", a.Bits, r)
		}
	}
}

func TestTakesAtTheLimitOfUsed(t *testing.T) {
	for left := int64(0); left <= 40; left++ {
		used := usedLimit - left
		r := impl.Bits{Held: noiseText(28, 9), At: used % 8, Used: used}
		for n := int64(0); n <= 32; n++ {
			a := impl.BitsTake(r, n)
			if a.Ok != (n <= left) {
				t.Errorf("%d bits below the limit: taking %d is %v", left, n, a.Ok)
			}
			want := r
			if n <= left {
				want = impl.Bits{Held: r.Held[(r.At+n)/8:], At: (r.At + n) % 8, Used: used + n}
			} else if a.Val != 0 {
				t.Errorf("%d bits below the limit: a value without bits", left)
			}
			checkReader(t, "near the limit", a.Bits, want)
		}
	}
}

func TestAlignAtTheLimitOfUsed(t *testing.T) {
	for left := int64(0); left < 8; left++ {
		used := usedLimit - left
		r := impl.Bits{Held: []byte{1, 2}, At: used % 8, Used: used}
		want := impl.Bits{Held: []byte{2}, Used: usedLimit}
		if left == 0 {
			want = r
		}
		checkReader(t, "aligned at the limit", impl.BitsAlign(r), want)
	}
}

func TestBytesAtTheLimitOfUsed(t *testing.T) {
	text := noiseText(29, 9)
	for left := int64(0); left <= 4; left++ {
		r := impl.Bits{Held: text, Used: usedLimit - 8*left}
		for n := int64(0); n <= 9; n++ {
			a := impl.BitsBytes(r, n)
			want := r
			if n <= left {
				want = impl.Bits{Held: text[n:], Used: r.Used + 8*n}
			}
			if a.Ok != (n <= left) || a.Ok && !bytes.Equal(a.Data, text[:n]) || !a.Ok && len(a.Data) != 0 {
				t.Errorf("%d bytes below the limit: %d bytes: %v %x", left, n, a.Ok, a.Data)
			}
			checkReader(t, "bytes near the limit", a.Bits, want)
		}
	}
}

// bitRun is a walk over one text: it feeds the next chunk whenever something is not there.
type bitRun struct {
	t      *testing.T
	reader impl.Bits
	fed    []byte
	chunks [][]byte
}

func (w *bitRun) feedNext() bool {
	if len(w.chunks) == 0 {
		return false
	}
	w.fed = append(w.fed, w.chunks[0]...)
	w.reader = impl.BitsFeed(w.reader, w.chunks[0])
	w.chunks = w.chunks[1:]
	checkReader(w.t, "fed", w.reader, plainReader(w.fed, w.reader.Used))
	return true
}

func (w *bitRun) take(n int64) (uint64, bool) {
	for {
		used := w.reader.Used
		a := impl.BitsTake(w.reader, n)
		w.reader = a.Bits
		if a.Ok {
			checkReader(w.t, "taken in a run", a.Bits, plainReader(w.fed, used+n))
			return a.Val, true
		}
		checkReader(w.t, "kept in a run", a.Bits, plainReader(w.fed, used))
		if !w.feedNext() {
			return 0, false
		}
	}
}

func (w *bitRun) bytes(n int64) ([]byte, bool) {
	w.reader = impl.BitsAlign(w.reader)
	for {
		used := w.reader.Used
		a := impl.BitsBytes(w.reader, n)
		w.reader = a.Bits
		if a.Ok {
			checkReader(w.t, "bytes in a run", a.Bits, plainReader(w.fed, used+8*n))
			return a.Data, true
		}
		checkReader(w.t, "bytes kept in a run", a.Bits, plainReader(w.fed, used))
		if !w.feedNext() {
			return nil, false
		}
	}
}

func cutAtNoise(seed uint64, text []byte, most int64) [][]byte {
	g := noise{seed}
	var chunks [][]byte
	for len(text) > 0 {
		n := min(g.below(most+1), int64(len(text)))
		chunks = append(chunks, text[:n])
		text = text[n:]
	}
	return append(chunks, nil)
}

func TestSameBitsInAnyChunks(t *testing.T) {
	text := noiseText(30, 400)
	var single [][]byte
	for i := range text {
		single = append(single, text[i:i+1], nil)
	}
	cuts := [][][]byte{{text}, {nil, text, {}}, {text[:1], text[1:399], text[399:]}, single}
	for seed := uint64(1); seed <= 12; seed++ {
		cuts = append(cuts, cutAtNoise(seed, text, int64(seed)))
	}
	for i, chunks := range cuts {
		for seed := uint64(1); seed <= 8; seed++ {
			checkRun(t, i, text, chunks, seed)
		}
	}
}

// checkRun holds a walk in chunks against the plain bits of the whole text.
func checkRun(t *testing.T, which int, text []byte, chunks [][]byte, seed uint64) {
	t.Helper()
	w := &bitRun{t: t, chunks: chunks}
	g := noise{seed}
	used := int64(0)
	for {
		if g.below(5) == 0 {
			used = (used + 7) / 8 * 8
			n := g.below(7)
			data, ok := w.bytes(n)
			if used+8*n > 8*int64(len(text)) {
				if ok {
					t.Errorf("cut %d: bytes behind the end", which)
				}
				break
			}
			if !ok || !bytes.Equal(data, text[used/8:used/8+n]) {
				t.Fatalf("cut %d: %d bytes at bit %d: %v %x", which, n, used, ok, data)
			}
			used += 8 * n
			continue
		}
		n := g.below(33)
		val, ok := w.take(n)
		if used+n > 8*int64(len(text)) {
			if ok {
				t.Errorf("cut %d: bits behind the end", which)
			}
			break
		}
		if !ok || val != plainTake(text, used, n) {
			t.Fatalf("cut %d: %d bits at bit %d: %v %#x", which, n, used, ok, val)
		}
		used += n
	}
}

func TestBitsKeepTheirMemoryApart(t *testing.T) {
	text := []byte{1, 2, 3, 4, 5, 6, 7, 8}
	for used := int64(0); used <= 64; used++ {
		for _, n := range []int64{-1, 0, 1, 2, 3, 8, 20, 32, 33} {
			g := guard(text)
			held := g.arg()[used/8:]
			r := impl.Bits{Held: held, At: used % 8, Used: used}
			chunk := guard([]byte{9, 10})
			taken, aligned, data := impl.BitsTake(r, n), impl.BitsAlign(r), impl.BitsBytes(r, n)
			fed, fedNothing := impl.BitsFeed(r, chunk.arg()), impl.BitsFeed(r, held[:0])
			checkApart(t, "BitsTake", taken.Bits.Held, g.whole)
			checkApart(t, "BitsAlign", aligned.Held, g.whole)
			checkApart(t, "BitsBytes", data.Bits.Held, g.whole, data.Data)
			checkApart(t, "BitsBytes, its Data", data.Data, g.whole, data.Bits.Held)
			checkApart(t, "BitsFeed", fed.Held, g.whole, chunk.whole)
			checkApart(t, "BitsFeed of nothing", fedNothing.Held, g.whole)
			g.check(t, "readers")
			chunk.check(t, "chunks")
		}
	}
}

func TestCopiesOfAFullReaderAreApart(t *testing.T) {
	g := guard(noiseText(31, impl.HeldMax))
	full := impl.BitsFeed(impl.Bits{Held: g.arg()}, []byte{1})
	checkReader(t, "a copy", full, impl.Bits{Held: g.arg()})
	checkApart(t, "BitsFeed of a full reader", full.Held, g.whole)
	limit := impl.Bits{Held: g.arg()[:9], Used: usedLimit}
	checkApart(t, "BitsTake at the limit", impl.BitsTake(limit, 1).Bits.Held, g.whole)
	checkApart(t, "BitsAlign at the limit", impl.BitsAlign(limit).Held, g.whole)
	checkApart(t, "BitsBytes at the limit", impl.BitsBytes(limit, 1).Bits.Held, g.whole)
	g.check(t, "full reader")
}

func TestFeedOfItsOwnBytes(t *testing.T) {
	g := guard([]byte{1, 2, 3})
	r := impl.Bits{Held: g.arg()}
	checkReader(t, "the reader's own bytes as the chunk", impl.BitsFeed(r, r.Held), impl.Bits{Held: []byte{1, 2, 3, 1, 2, 3}})
	g.check(t, "own bytes")
}
