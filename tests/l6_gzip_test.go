package tests

import (
	"bytes"
	"compress/flate"
	"compress/gzip"
	"encoding/binary"
	"io"
	"math"
	"slices"
	"strconv"
	"testing"
	"time"

	"loop.example/s02972/impl"
)

func sameMember(a, b impl.Member) bool {
	numbers := a.Flags == b.Flags && a.Mtime == b.Mtime && a.Xfl == b.Xfl && a.Os == b.Os && a.Size == b.Size
	return numbers && bytes.Equal(a.Extra, b.Extra) && bytes.Equal(a.Name, b.Name) && bytes.Equal(a.Comment, b.Comment)
}

func sameGzip(a, b impl.GzipRes) bool {
	return a.Class == b.Class && a.Used == b.Used && bytes.Equal(a.Out, b.Out) && slices.EqualFunc(a.Members, b.Members, sameMember)
}

func checkGzip(t *testing.T, what string, b []byte) impl.GzipRes {
	t.Helper()
	got, want := impl.Gzip(b), plainGzip(b)
	if !sameGzip(got, want) {
		t.Errorf("%s: %d bytes: class %d, %d bytes told, %d members, %d used; not class %d, %d bytes, %d members, %d used (or others)", what, len(b), got.Class, len(got.Out), len(got.Members), got.Used, want.Class, len(want.Out), len(want.Members), want.Used)
	}
	return got
}

// checkGzipRow has the answer told by hand.
func checkGzipRow(t *testing.T, what string, b []byte, class int64, out []byte, members ...impl.Member) {
	t.Helper()
	got := checkGzip(t, what, b)
	want := impl.GzipRes{Class: class, Out: out, Members: members}
	if class == impl.ClassEnd {
		want.Used = int64(len(b))
	}
	if !sameGzip(got, want) {
		t.Errorf("%s: class %d, %d bytes told, %d members, %d used; not class %d, %d bytes, %d members, %d used (or others)", what, got.Class, len(got.Out), len(got.Members), got.Used, want.Class, len(want.Out), len(want.Members), want.Used)
	}
}

// gzipA is the plainest member, of one byte.
func gzipA() ([]byte, impl.Member) {
	return gzipOf(impl.Member{}, plainFixed([]byte("a")), []byte("a")), impl.Member{Size: 1}
}

// fullMember has all flags and fields.
func fullMember(size int) impl.Member {
	return impl.Member{Flags: 31, Mtime: 0xfedcba98, Xfl: 2, Os: 255, Extra: []byte("ex\x00tra"), Name: []byte("name"), Comment: []byte("a comment"), Size: int64(size)}
}

func changed(b []byte, at int, x byte) []byte {
	b = bytes.Clone(b)
	b[at] = x
	return b
}

// TestGzipMarks has every other value in the place of each of the first three bytes, with nothing and with a whole member behind.
func TestGzipMarks(t *testing.T) {
	a, m := gzipA()
	checkGzipRow(t, "no byte", nil, impl.ClassShort, nil)
	checkGzipRow(t, "a whole member", a, impl.ClassEnd, []byte("a"), m)
	for at, right := range []byte{31, 139, 8} {
		for x := range 256 {
			b := changed(a, at, byte(x))
			if byte(x) == right {
				checkGzipRow(t, "a right mark and no more", b[:at+1], impl.ClassShort, nil)
				continue
			}
			checkGzipRow(t, "a wrong mark and no more", b[:at+1], impl.ClassBad, nil)
			checkGzipRow(t, "a wrong mark", b, impl.ClassBad, nil)
			checkGzipRow(t, "a wrong mark behind a member", slices.Concat(a, b), impl.ClassBad, []byte("a"), m)
		}
	}
}

// TestGzipFlagsAtOnce has all flags with nothing behind them: those that are not known are wrong before the rest is missing.
func TestGzipFlagsAtOnce(t *testing.T) {
	a, _ := gzipA()
	for flags := range 256 {
		class := int64(impl.ClassShort)
		if flags >= 32 {
			class = impl.ClassBad
			checkGzipRow(t, "flags that are not known", changed(a, 3, byte(flags)), class, nil)
		}
		checkGzipRow(t, "flags and no more", []byte{31, 139, 8, byte(flags)}, class, nil)
	}
}

// flagMembers has all flags together in all ways, with lists of no byte, of one and of more.
func flagMembers() []impl.Member {
	var members []impl.Member
	for flags := range int64(32) {
		for _, list := range []string{"", "x", "list"} {
			m := impl.Member{Flags: flags, Mtime: 1 << flags, Xfl: flags, Os: 255 - flags}
			if flags&4 != 0 {
				m.Extra = []byte(list + "\x00")[:len(list)+len(list)/4]
			}
			if flags&8 != 0 {
				m.Name = []byte("name" + list)[4-len(list) : 4]
			}
			if flags&16 != 0 {
				m.Comment = bytes.Repeat([]byte(list), 5)
			}
			members = append(members, m)
		}
	}
	return members
}

func TestGzipFields(t *testing.T) {
	for _, m := range flagMembers() {
		b := gzipOf(m, plainFixed([]byte("data")), []byte("data"))
		m.Size = 4
		checkGzipRow(t, "flags "+strconv.FormatInt(m.Flags, 10), b, impl.ClassEnd, []byte("data"), m)
	}
	for _, mtime := range []int64{0, 1, 255, 256, 65536, 1 << 24, 1<<31 - 1, 1 << 31, 1<<32 - 1} {
		for _, x := range []int64{0, 1, 128, 255} {
			m := impl.Member{Mtime: mtime, Xfl: x, Os: 255 - x}
			checkGzipRow(t, "numbers", gzipOf(m, plainFixed(nil), nil), impl.ClassEnd, nil, m)
		}
	}
}

// TestGzipHeadsCut has each head at each of its beginnings: a text without the 0 at its end and lists cut short are among them.
func TestGzipHeadsCut(t *testing.T) {
	for _, m := range append(flagMembers(), fullMember(0)) {
		head := gzipHead(m)
		for n := range len(head) + 1 {
			checkGzipRow(t, "a head cut", head[:n], impl.ClassShort, nil)
		}
	}
	extra := gzipHead(impl.Member{Flags: 4, Extra: []byte("abc")})
	checkGzipRow(t, "more Extra than there is", changed(extra, 11, 255), impl.ClassShort, nil)
	long := append(gzipHead(impl.Member{Flags: 8, Name: noiseLetters(114, 60000)}), plainFixed(nil)...)
	checkGzipRow(t, "a long name and no end", long, impl.ClassShort, nil)
	open := bytes.TrimRight(gzipHead(impl.Member{Flags: 16, Comment: noiseLetters(115, 65000)}), "\x00")
	checkGzipRow(t, "a long comment without its 0", open, impl.ClassShort, nil)
}

// noiseLetters has no byte 0.
func noiseLetters(seed uint64, n int) []byte {
	text := noiseText(seed, n)
	for i := range text {
		text[i] = text[i]%255 + 1
	}
	return text
}

func TestGzipLongLists(t *testing.T) {
	for _, n := range []int{511, 512, 513, 32768, 65000} {
		text := noiseLetters(116, n)
		for _, m := range []impl.Member{{Flags: 4, Extra: text}, {Flags: 6, Extra: text}, {Flags: 8, Name: text}, {Flags: 10, Name: text}, {Flags: 16, Comment: text}, {Flags: 18, Comment: text}} {
			b := gzipOf(m, plainFixed([]byte("a")), []byte("a"))
			m.Size = 1
			checkGzipRow(t, "a long list", b, impl.ClassEnd, []byte("a"), m)
		}
	}
	zeros := impl.Member{Flags: 28, Extra: make([]byte, 300), Name: []byte("n")}
	checkGzipRow(t, "Extra of zeros", gzipOf(zeros, plainFixed(nil), nil), impl.ClassEnd, nil, zeros)
	most := impl.Member{Flags: 4, Extra: noiseText(117, 65536-12-2-8)}
	checkGzipRow(t, "as much Extra as InMax allows", gzipOf(most, plainFixed(nil), nil), impl.ClassEnd, nil, most)
}

func TestGzipHeadSums(t *testing.T) {
	for _, m := range append(flagMembers(), fullMember(0)) {
		if m.Flags&2 == 0 {
			continue
		}
		m.Size = 1
		good := gzipOf(m, plainFixed([]byte("a")), []byte("a"))
		end := len(gzipHead(m))
		checkGzipRow(t, "the right sum", good, impl.ClassEnd, []byte("a"), m)
		for bit := range 16 {
			b := changed(good, end-2+bit/8, good[end-2+bit/8]^1<<(bit%8))
			checkGzipRow(t, "a wrong sum", b, impl.ClassSum, nil)
			checkGzipRow(t, "a wrong sum and no more", b[:end], impl.ClassSum, nil)
			checkGzipRow(t, "a wrong sum cut", b[:end-1], impl.ClassShort, nil)
		}
		upper := bytes.Clone(good)
		binary.LittleEndian.PutUint16(upper[end-2:], uint16(plainCrc(0, good[:end-2])>>16))
		checkGzipRow(t, "the upper half", upper, impl.ClassSum, nil)
		first, second := gzipA()
		checkGzipRow(t, "the right sum behind another member", slices.Concat(first, good), impl.ClassEnd, []byte("aa"), second, m)
		for at := 4; at < end-2; at++ {
			if got := checkGzip(t, "a head with one byte changed", changed(good, at, good[at]^64)); got.Class == impl.ClassEnd {
				t.Errorf("byte %d of the head changed, and its sum did not tell", at)
			}
		}
	}
}

// TestGzipOfEachStream has all streams of chapter 5, alone and behind another member.
func TestGzipOfEachStream(t *testing.T) {
	var classes [8]int
	first, a := gzipA()
	for _, r := range inflateRows() {
		if len(r.b)+18+len(first) > 65536 || r.what == "a distance" && len(r.dict) > 0 {
			continue
		}
		res, _ := plainInflate(r.b, 32768, nil)
		classes[res.Class]++
		b := append(gzipHead(impl.Member{}), r.b...)
		if res.Class != impl.ClassEnd {
			checkGzipRow(t, r.what, b, res.Class, res.Out)
			checkGzip(t, r.what+" behind a member", slices.Concat(first, b))
			continue
		}
		b = gzipOf(impl.Member{}, r.b, res.Out)
		m := impl.Member{Size: int64(len(res.Out))}
		checkGzipRow(t, r.what, b, impl.ClassEnd, res.Out, m)
		if len(res.Out) < 100000 {
			checkGzipRow(t, r.what+" behind a member", slices.Concat(first, b), impl.ClassEnd, append([]byte("a"), res.Out...), a, m)
		}
	}
	for _, class := range []int{impl.ClassEnd, impl.ClassShort, impl.ClassBad, impl.ClassLarge} {
		if classes[class] < 5 {
			t.Errorf("class %d only %d times", class, classes[class])
		}
	}
}

// TestGzipDistances asks for the farthest byte that was told in the member, and for one farther; what another member told is not there.
func TestGzipDistances(t *testing.T) {
	text := noiseText(118, 33000)
	before := gzipOf(impl.Member{}, plainStored(text[:9], 9), text[:9])
	for _, n := range []int64{0, 1, 300, 32767, 32768, 33000} {
		for _, dist := range []int64{1, n - 1, n, n + 1, n + 9, 32767, 32768} {
			if dist < 1 || dist > 32768 {
				continue
			}
			told, m := text[:n], impl.Member{Size: n + 3}
			out, class := told, int64(impl.ClassBad)
			if dist <= n {
				out, class = plainCopy(told, dist, 3), impl.ClassEnd
			}
			b := gzipOf(impl.Member{}, farCopy(told, dist), out)
			both := slices.Concat(before, b)
			if class == impl.ClassEnd {
				checkGzipRow(t, "a copy", b, class, out, m)
				checkGzipRow(t, "a copy behind a member", both, class, slices.Concat(text[:9], out), impl.Member{Size: 9}, m)
			} else {
				checkGzipRow(t, "a copy from too far", b, class, out)
				checkGzipRow(t, "a copy from the member before", both, class, slices.Concat(text[:9], out), impl.Member{Size: 9})
			}
		}
	}
}

func TestGzipSumsAndSizes(t *testing.T) {
	first, a := gzipA()
	for _, r := range lastByteRows() {
		good := gzipOf(impl.Member{}, r.b, r.out)
		end, m := len(good), impl.Member{Size: int64(len(r.out))}
		checkGzipRow(t, r.what, good, impl.ClassEnd, r.out, m)
		for n := range 8 {
			checkGzipRow(t, r.what+", cut", good[:end-8+n], impl.ClassShort, r.out)
			checkGzipRow(t, r.what+", cut behind a member", slices.Concat(first, good[:end-8+n]), impl.ClassShort, append([]byte("a"), r.out...), a)
		}
		for bit := range 64 {
			at := end - 8 + bit/8
			b := changed(good, at, good[at]^1<<(bit%8))
			checkGzipRow(t, r.what+", a wrong number", b, impl.ClassSum, r.out)
			checkGzipRow(t, r.what+", a wrong number and bytes behind", slices.Concat(b, good), impl.ClassSum, r.out)
			checkGzipRow(t, r.what+", a wrong number behind a member", slices.Concat(first, b), impl.ClassSum, append([]byte("a"), r.out...), a)
			whole := end - 8 + bit/32*4 + 4
			checkGzipRow(t, r.what+", a wrong number and no more", b[:whole], impl.ClassSum, r.out)
			checkGzipRow(t, r.what+", a wrong number cut", b[:whole-1], impl.ClassShort, r.out)
		}
	}
}

// TestGzipMembers has up to three members, each with a sum and a size of its own.
func TestGzipMembers(t *testing.T) {
	texts := []string{"", "one", "another one", "one"}
	var codes [][]byte
	var members []impl.Member
	for i, text := range texts {
		m := impl.Member{Flags: int64(8 * i % 32), Mtime: int64(i), Size: int64(len(text))}
		if m.Flags&8 != 0 {
			m.Name = []byte("name " + text)
		}
		if m.Flags&16 != 0 {
			m.Comment = []byte("comment " + text)
		}
		codes, members = append(codes, gzipOf(m, plainFixed([]byte(text)), []byte(text))), append(members, m)
	}
	for i := range texts {
		for j := range texts {
			two := slices.Concat(codes[i], codes[j])
			checkGzipRow(t, "two members", two, impl.ClassEnd, []byte(texts[i]+texts[j]), members[i], members[j])
			for k := range texts {
				checkGzipRow(t, "three members", slices.Concat(two, codes[k]), impl.ClassEnd, []byte(texts[i]+texts[j]+texts[k]), members[i], members[j], members[k])
			}
		}
	}
}

// TestGzipCutBehindAMember has every beginning of three members: only where one ends is it ClassEnd.
func TestGzipCutBehindAMember(t *testing.T) {
	var b []byte
	var members []impl.Member
	ends := map[int]int{}
	for i, text := range []string{"a", "bcd", "ef"} {
		m := fullMember(len(text))
		m.Mtime = int64(i)
		b = append(b, gzipOf(m, plainFixed([]byte(text)), []byte(text))...)
		members = append(members, m)
		ends[len(b)] = i + 1
	}
	done := 0
	for n := range len(b) + 1 {
		got := checkGzip(t, "three members, cut", b[:n])
		class, used := int64(impl.ClassShort), int64(0)
		if ends[n] > 0 {
			done, class, used = ends[n], impl.ClassEnd, int64(n)
		}
		if got.Class != class || got.Used != used || !slices.EqualFunc(got.Members, members[:done], sameMember) || !bytes.HasPrefix([]byte("abcdef"), got.Out) {
			t.Errorf("the first %d bytes: class %d, %d used, %d members, %q", n, got.Class, got.Used, len(got.Members), got.Out)
		}
	}
	if done != 3 {
		t.Errorf("%d members", done)
	}
}

// TestGzipBytesBehindAMember has all bytes behind a member, alone and with others.
func TestGzipBytesBehindAMember(t *testing.T) {
	a, m := gzipA()
	for x := range 256 {
		class := int64(impl.ClassBad)
		if x == 31 {
			class = impl.ClassShort
		}
		checkGzipRow(t, "a byte behind", append(bytes.Clone(a), byte(x)), class, []byte("a"), m)
		checkGzipRow(t, "bytes behind", append(bytes.Clone(a), byte(x), 0), impl.ClassBad, []byte("a"), m)
		checkGzipRow(t, "bytes behind two", slices.Concat(a, a, []byte{byte(x)}), class, []byte("aa"), m, m)
	}
}

// closedMember tells n bytes.
func closedMember(n int64) []byte {
	out := bytes.Repeat([]byte("a"), int(n))
	if n == 0 {
		return gzipOf(impl.Member{}, plainFixed(nil), nil)
	}
	w, c := nearLimit(n)
	return gzipOf(impl.Member{}, w.lit(c, 256).b, out)
}

func TestGzipOutMaxOverMembers(t *testing.T) {
	most := bytes.Repeat([]byte("a"), 100000)
	size := func(n int64) impl.Member { return impl.Member{Size: n} }
	big, rest, none := closedMember(60000), closedMember(40000), closedMember(0)
	checkGzipRow(t, "OutMax", slices.Concat(big, rest), impl.ClassEnd, most, size(60000), size(40000))
	checkGzipRow(t, "OutMax in one", closedMember(100000), impl.ClassEnd, most, size(100000))
	checkGzipRow(t, "OutMax and members of nothing", slices.Concat(none, big, rest, none, none), impl.ClassEnd, most, size(0), size(60000), size(40000), size(0), size(0))
	checkGzipRow(t, "a byte more in a third member", slices.Concat(big, rest, closedMember(1)), impl.ClassLarge, most, size(60000), size(40000))
	alone, c := nearLimit(100000)
	checkGzipRow(t, "a byte more in one", append(gzipHead(impl.Member{}), alone.lit(c, 97).b...), impl.ClassLarge, most)
	behind := func(n int64, write func(*bitText, bitCodes)) []byte {
		w, c := nearLimit(n)
		write(w, c)
		return slices.Concat(big, gzipHead(impl.Member{}), w.b)
	}
	checkGzipRow(t, "a byte more", behind(40000, func(w *bitText, c bitCodes) { w.lit(c, 97) }), impl.ClassLarge, most, size(60000))
	checkGzipRow(t, "a copy that does not fit", behind(39990, func(w *bitText, c bitCodes) { w.copied(c, 11, 1) }), impl.ClassLarge, most[:99990], size(60000))
	checkGzipRow(t, "286 at the limit", behind(40000, func(w *bitText, c bitCodes) { w.lit(c, 286) }), impl.ClassBad, most, size(60000))
	stored := behind(39990, func(w *bitText, c bitCodes) {
		w.b[0] &^= 1
		w.lit(c, 256).stored(1, "0", most[:20])
	})
	checkGzipRow(t, "a stored block that does not fit", stored, impl.ClassLarge, most, size(60000))
	checkGzipRow(t, "a stored block cut at the limit", stored[:len(stored)-10], impl.ClassShort, most, size(60000))
}

func TestGzipOutsideItsBounds(t *testing.T) {
	a, m := gzipA()
	text := noiseText(119, 65536-18-5-len(a))
	full := slices.Concat(a, gzipOf(impl.Member{}, plainStored(text, 65535), text))
	if len(full) != 65536 {
		t.Fatalf("%d bytes", len(full))
	}
	checkGzipRow(t, "InMax bytes", full, impl.ClassEnd, append([]byte("a"), text...), m, impl.Member{Size: int64(len(text))})
	padded := append(bytes.Clone(a), make([]byte, 65536-len(a))...)
	checkGzipRow(t, "InMax bytes, most of them no member", padded, impl.ClassBad, []byte("a"), m)
	for _, b := range [][]byte{append(full, 0), append(padded, 0), make([]byte, 65537), make([]byte, 200000)} {
		checkGzipRow(t, "above InMax", b, impl.ClassLong, nil)
	}
}

// TestGzipOfManyMembers has as many members as InMax bytes hold.
func TestGzipOfManyMembers(t *testing.T) {
	none := gzipOf(impl.Member{Os: 3}, plainFixed(nil), nil)
	n := 65536 / len(none)
	got := impl.Gzip(bytes.Repeat(none, n))
	if got.Class != impl.ClassEnd || len(got.Members) != n || len(got.Out) != 0 || got.Used != int64(n*len(none)) {
		t.Errorf("class %d, %d members of %d", got.Class, len(got.Members), n)
	}
	for i, m := range got.Members {
		if !sameMember(m, impl.Member{Os: 3}) {
			t.Fatalf("member %d: %+v", i, m)
		}
	}
}

// memberBounds are members at a bound and past it.
func memberBounds() (good, bad []impl.Member) {
	flat := func(n int) []byte { return bytes.Repeat([]byte{1}, n) }
	good = []impl.Member{{}, {Flags: 31}, {Flags: 1}, {Mtime: 1<<32 - 1}, {Xfl: 255}, {Os: 255}, {Size: 100000}, fullMember(0), fullMember(100000),
		{Flags: 4, Extra: make([]byte, 65535)}, {Flags: 8, Name: flat(65536)}, {Flags: 16, Comment: flat(65536)}, {Flags: 8, Name: flat(1)}, {Flags: 16, Comment: []byte{255}},
		{Flags: 12, Extra: flat(65535), Name: flat(1)}, {Flags: 20, Extra: flat(65535), Comment: flat(1)}, {Flags: 24, Name: flat(30000), Comment: flat(35536)}, {Flags: 28, Extra: flat(20000), Name: flat(20000), Comment: flat(25536)},
		{Flags: 4, Extra: []byte{0, 0}}, {Extra: []byte{}, Name: []byte{}, Comment: []byte{}}}
	bad = []impl.Member{{Flags: -1}, {Flags: 32}, {Flags: math.MinInt64}, {Flags: 1 << 32}, {Mtime: -1}, {Mtime: 1 << 32}, {Mtime: math.MaxInt64}, {Mtime: math.MinInt64},
		{Xfl: -1}, {Xfl: 256}, {Xfl: 1 << 32}, {Os: -1}, {Os: 256}, {Os: 1 << 40}, {Size: -1}, {Size: 100001}, {Size: 1 << 32}, {Size: math.MinInt64},
		{Flags: 27, Extra: flat(1)}, {Flags: 23, Name: flat(1)}, {Flags: 15, Comment: flat(1)}, {Extra: []byte{0}}, {Flags: 4, Extra: make([]byte, 65536)}, {Flags: 4, Extra: make([]byte, 70000)},
		{Flags: 8, Name: []byte{0}}, {Flags: 8, Name: []byte("a\x00b")}, {Flags: 8, Name: []byte("ab\x00")}, {Flags: 16, Comment: []byte{0}}, {Flags: 16, Comment: []byte("\x00b")}, {Flags: 16, Comment: []byte("b\x00")},
		{Flags: 8, Name: flat(65537)}, {Flags: 16, Comment: flat(65537)}, {Flags: 12, Extra: flat(65535), Name: flat(2)}, {Flags: 20, Extra: flat(65535), Comment: flat(2)}, {Flags: 24, Name: flat(30000), Comment: flat(35537)},
		{Flags: 28, Extra: flat(20000), Name: flat(20000), Comment: flat(25537)}, {Flags: 28, Extra: flat(65535), Name: flat(1), Comment: flat(1)}}
	return good, bad
}

func TestValidMember(t *testing.T) {
	good, bad := memberBounds()
	for i, m := range append(good, flagMembers()...) {
		if !impl.ValidMember(m) {
			t.Errorf("good member %d of flags %d is not valid", i, m.Flags)
		}
	}
	for i, m := range bad {
		if impl.ValidMember(m) {
			t.Errorf("bad member %d of flags %d is valid", i, m.Flags)
		}
		for _, n := range []int64{0, 1, m.Size} {
			if code := impl.EncodeGzip(m, make([]byte, min(max(n, 0), 200000))); len(code) != 0 {
				t.Errorf("bad member %d of flags %d has a code of %d bytes", i, m.Flags, len(code))
			}
		}
	}
}

func TestEncodeGzip(t *testing.T) {
	good, _ := memberBounds()
	for _, m := range append(good, flagMembers()...) {
		for _, data := range append(sampleData(), noiseText(120, 100000)) {
			if len(m.Extra)+len(m.Name)+len(m.Comment) > 1000 && len(data) > 1000 {
				continue
			}
			m.Size = int64(len(data))
			if got, want := impl.EncodeGzip(m, data), gzipOf(m, plainFixed(data), data); !bytes.Equal(got, want) {
				t.Errorf("%d bytes, flags %d: %d bytes, not %d, or others", len(data), m.Flags, len(got), len(want))
			}
			for _, size := range []int64{m.Size - 1, m.Size + 1, 0, 1, 100000, -m.Size, m.Size + 1<<32} {
				m.Size = size
				if got := impl.EncodeGzip(m, data); size != int64(len(data)) && len(got) != 0 {
					t.Errorf("%d bytes, size %d: %d bytes", len(data), size, len(got))
				}
			}
		}
	}
	if got := impl.EncodeGzip(impl.Member{Size: 100001}, make([]byte, 100001)); len(got) != 0 {
		t.Errorf("OutMax + 1 bytes: %d bytes", len(got))
	}
}

// noiseMember has fields of noise's choice that are valid.
func noiseMember(g *noise, size int) impl.Member {
	m := impl.Member{Flags: g.below(32), Mtime: g.below(1 << 32), Xfl: g.below(256), Os: g.below(256), Size: int64(size)}
	if m.Flags&4 != 0 {
		m.Extra = noiseText(g.next(), int(g.below(30)))
	}
	if m.Flags&8 != 0 {
		m.Name = noiseLetters(g.next(), int(g.below(30)))
	}
	if m.Flags&16 != 0 {
		m.Comment = noiseLetters(g.next(), int(g.below(30)))
	}
	return m
}

func TestGzipGivesDataAndMembersBack(t *testing.T) {
	g := &noise{121}
	for range 200 {
		var b, out []byte
		var members []impl.Member
		for range 1 + g.below(6) {
			data := noiseText(g.next(), int(g.below(2)*g.below(9000)))
			m := noiseMember(g, len(data))
			b, out, members = append(b, impl.EncodeGzip(m, data)...), append(out, data...), append(members, m)
		}
		want := impl.GzipRes{Class: impl.ClassEnd, Out: out, Members: members, Used: int64(len(b))}
		if got := impl.Gzip(b); !sameGzip(got, want) {
			t.Errorf("%d members, %d bytes: class %d, %d members, %d bytes of %d", len(members), len(b), got.Class, len(got.Members), len(got.Out), len(out))
		}
	}
}

// TestGzipGivesBackInMaxBytes has codes of just InMax bytes, in one member and in several, and of one byte more.
func TestGzipGivesBackInMaxBytes(t *testing.T) {
	low := noiseText(122, 65536)
	for i := range low {
		low[i] %= 144
	}
	for _, parts := range []int{1, 2, 5} {
		for _, more := range []int{0, 1} {
			var b []byte
			var members []impl.Member
			left := 65536 - 20*parts + more
			out := low[:left]
			for i := range parts {
				n := len(out) / parts
				if i == parts-1 {
					n = left
				}
				data := out[len(out)-left:][:n]
				left -= n
				m := impl.Member{Os: int64(i), Size: int64(n)}
				b, members = append(b, impl.EncodeGzip(m, data)...), append(members, m)
			}
			want := impl.GzipRes{Class: impl.ClassEnd, Out: out, Members: members, Used: 65536}
			if more == 1 {
				want = impl.GzipRes{Class: impl.ClassLong}
			}
			if got := impl.Gzip(b); len(b) != 65536+more || !sameGzip(got, want) {
				t.Errorf("%d members of %d bytes: class %d, %d members", parts, len(b), got.Class, len(got.Members))
			}
		}
	}
}

// TestOneByteChangedInAGzipCode has every byte of some codes with every other value.
func TestOneByteChangedInAGzipCode(t *testing.T) {
	var same, sums int
	for _, data := range [][]byte{nil, []byte("a"), []byte("hello, hello"), {200, 201, 202}, noiseText(123, 60)} {
		for _, m := range []impl.Member{{}, fullMember(0), {Flags: 2}} {
			m.Size = int64(len(data))
			code := impl.EncodeGzip(m, data)
			for at := range code {
				for x := 1; x < 256; x++ {
					b := changed(code, at, code[at]^byte(x))
					got := impl.Gzip(b)
					if x&(x-1) == 0 {
						checkGzip(t, "one bit changed", b)
					}
					if got.Class == impl.ClassSum {
						sums++
					}
					if got.Class != impl.ClassEnd || len(got.Members) != 1 {
						continue
					}
					same++
					if !bytes.Equal(got.Out, data) && plainCrc(0, got.Out) != plainCrc(0, data) {
						t.Errorf("byte %d of %d changed by %d: %x, not %x", at, len(code), x, got.Out, data)
					}
				}
			}
		}
	}
	if same < 100 || sums < 1000 {
		t.Errorf("only %d changed codes end, %d have another sum", same, sums)
	}
}

// gzipOfLibrary has a name and a comment that the library can write, and no sum of the header, which it cannot.
func gzipOfLibrary(t *testing.T, level int, text []byte) ([]byte, impl.Member) {
	t.Helper()
	var b bytes.Buffer
	w, err := gzip.NewWriterLevel(&b, level)
	if err != nil {
		t.Fatal(err)
	}
	w.Header = gzip.Header{Comment: "a comment", Extra: []byte("ex\x00tra"), ModTime: time.Unix(1700000000, 0), Name: "name", OS: 7}
	w.Write(text)
	w.Close()
	return b.Bytes(), impl.Member{Flags: 28, Mtime: 1700000000, Os: 7, Extra: []byte("ex\x00tra"), Name: []byte("name"), Comment: []byte("a comment"), Size: int64(len(text))}
}

func TestGzipOfAnotherEncoder(t *testing.T) {
	for what, text := range flateTexts() {
		for _, level := range []int{flate.HuffmanOnly, flate.NoCompression, 1, 6, 9} {
			b, m := gzipOfLibrary(t, level, text)
			if len(b) > 65536 {
				continue
			}
			got := impl.Gzip(b)
			if len(got.Members) == 1 {
				m.Xfl = got.Members[0].Xfl
			}
			if !sameGzip(got, impl.GzipRes{Class: impl.ClassEnd, Out: text, Members: []impl.Member{m}, Used: int64(len(b))}) {
				t.Errorf("%s, level %d: class %d, %d bytes told, %d used of %d, %+v", what, level, got.Class, len(got.Out), got.Used, len(b), got.Members)
			}
		}
	}
}

func TestGzipCodesAreReadByAnotherReader(t *testing.T) {
	var b, out []byte
	for i, m := range flagMembers() {
		data := sampleData()[i%len(sampleData())]
		m.Size = int64(len(data))
		b, out = append(b, impl.EncodeGzip(m, data)...), append(out, data...)
	}
	r, err := gzip.NewReader(bytes.NewReader(b))
	if err != nil {
		t.Fatal(err)
	}
	if got, err := io.ReadAll(r); err != nil || !bytes.Equal(got, out) {
		t.Errorf("%v, %d bytes, not %d", err, len(got), len(out))
	}
}

// TestGzipOfNoise has members of noise's choice, cut and changed.
func TestGzipOfNoise(t *testing.T) {
	g := &noise{124}
	var seen [8]int
	for range 300 {
		var b []byte
		for range 1 + g.below(3) {
			stream := noiseStream(g)
			res, _ := plainInflate(stream, 32768, nil)
			b = append(b, gzipOf(noiseMember(g, 0), stream, res.Out)...)
		}
		seen[checkGzip(t, "noise", b).Class]++
		seen[checkGzip(t, "noise, cut", b[:g.below(int64(len(b)))]).Class]++
		seen[checkGzip(t, "noise behind", append(bytes.Clone(b), noiseText(g.next(), int(g.below(9)))...)).Class]++
		for range 3 {
			at := g.below(int64(len(b)))
			seen[checkGzip(t, "noise, one bit turned", changed(b, int(at), b[at]^1<<g.below(8))).Class]++
		}
	}
	for _, class := range []int{impl.ClassEnd, impl.ClassShort, impl.ClassBad, impl.ClassSum} {
		if seen[class] < 20 {
			t.Errorf("class %d only %d times", class, seen[class])
		}
	}
}

// lists are all lists of an answer.
func lists(r impl.GzipRes) [][]byte {
	all := [][]byte{r.Out}
	for _, m := range r.Members {
		all = append(all, m.Extra, m.Name, m.Comment)
	}
	return all
}

func TestGzipKeepsItsMemoryApart(t *testing.T) {
	one, two := fullMember(5), fullMember(300)
	both := slices.Concat(impl.EncodeGzip(one, []byte("hello")), impl.EncodeGzip(two, make([]byte, 300)))
	long := impl.Member{Flags: 28, Extra: noiseText(125, 1000), Name: noiseLetters(126, 1000), Comment: noiseLetters(127, 1000)}
	a, _ := gzipA()
	for _, text := range [][]byte{nil, both, slices.Concat(both, both), impl.EncodeGzip(long, nil), slices.Concat(a, impl.EncodeGzip(long, nil), a), both[:len(both)-1], append(bytes.Clone(both), 0), changed(both, len(both)-1, 9)} {
		b := guard(text)
		want := plainGzip(text)
		for i := range lists(want) {
			got := impl.Gzip(b.arg())
			b.check(t, "Gzip")
			others := slices.Delete(lists(got), i, i+1)
			checkApart(t, "list "+strconv.Itoa(i), lists(got)[i], append(others, b.whole)...)
		}
		if again := impl.Gzip(b.arg()); !sameGzip(again, want) {
			t.Errorf("a later answer hangs on what became of those before")
		}
	}
}

func TestEncodeGzipKeepsItsMemoryApart(t *testing.T) {
	for _, n := range []int{0, 1, 100, 1000} {
		for _, flags := range []int64{31, 29, 32, 0} {
			data, extra, name, comment := guard(noiseText(128, n)), guard(noiseText(129, n)), guard(noiseLetters(130, n)), guard(noiseLetters(131, n))
			m := impl.Member{Flags: flags, Extra: extra.arg(), Name: name.arg(), Comment: comment.arg(), Size: int64(n)}
			impl.ValidMember(m)
			checkApart(t, "EncodeGzip", impl.EncodeGzip(m, data.arg()), data.whole, extra.whole, name.whole, comment.whole)
			for _, g := range []*guarded{data, extra, name, comment} {
				g.check(t, "EncodeGzip")
			}
		}
	}
}
