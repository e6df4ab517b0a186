package tests

import (
	"bytes"
	"compress/flate"
	"math"
	"slices"
	"strconv"
	"strings"
	"testing"

	"loop.example/s02972/impl"
)

func sameLens(a, b impl.LensRes) bool {
	return a.Class == b.Class && a.Bits == b.Bits && slices.Equal(a.Lits, b.Lits) && slices.Equal(a.Dists, b.Dists)
}

func sameInf(a, b impl.InfRes) bool {
	return a.Class == b.Class && a.Bits == b.Bits && bytes.Equal(a.Out, b.Out)
}

func checkLens(t *testing.T, what string, b []byte, at int64) impl.LensRes {
	t.Helper()
	got := impl.ReadLens(b, at)
	want, _ := plainReadLens(b, at)
	if !sameLens(got, want) {
		t.Errorf("%s: %d bytes at bit %d: class %d, %d and %d lengths, %d bits; not class %d, %d and %d lengths, %d bits (or other lengths)", what, len(b), at, got.Class, len(got.Lits), len(got.Dists), got.Bits, want.Class, len(want.Lits), len(want.Dists), want.Bits)
	}
	return got
}

func checkInflate(t *testing.T, what string, b []byte, size int64, dict []byte) impl.InfRes {
	t.Helper()
	got := impl.Inflate(b, size, dict)
	want, _ := plainInflate(b, size, dict)
	if !sameInf(got, want) {
		t.Errorf("%s: %d bytes, size %d: class %d, %d bytes told, %d bits; not class %d, %d bytes, %d bits (or other bytes)", what, len(b), size, got.Class, len(got.Out), got.Bits, want.Class, len(want.Out), want.Bits)
	}
	return got
}

// lensAt are n lengths, all 0 but those given as symbol and length in turn.
func lensAt(n int, given ...int64) []int64 {
	lens := manyLens(n, 0)
	for i := 0; i < len(given); i += 2 {
		lens[given[i]] = given[i+1]
	}
	return lens
}

// mostLens are 286 literal lengths and 30 distance lengths, all with codes.
func mostLens(g *noise) ([]int64, []int64) {
	return splitLens(g, 286, 15), splitLens(g, 30, 15)
}

// lensRow is a head, right or wrong, with its class and, for ClassEnd, its lengths.
type lensRow struct {
	what        string
	w           *bitText
	class       int64
	lits, dists []int64
}

func headRow(what string, class int64, h lensHead) lensRow {
	return lensRow{what: what, w: (&bitText{}).lens(h), class: class}
}

// rightHeads differ in how many lengths of each kind they have, and of what kinds.
func rightHeads() []lensRow {
	g := &noise{61}
	two, one := lensAt(257, 97, 1, 256, 1), lensAt(257, 256, 1)
	mostLits, mostDists := mostLens(g)
	rows := []struct {
		what        string
		lits, dists []int64
		class       int64
	}{
		{"two literals, no distance", two, lensAt(1), impl.ClassEnd},
		{"two literals, one distance", two, lensAt(1, 0, 1), impl.ClassEnd},
		{"two literals, thirty distances without a code", two, lensAt(30), impl.ClassEnd},
		{"two literals, the last of thirty distances", two, lensAt(30, 29, 1), impl.ClassEnd},
		{"256 alone", one, lensAt(1), impl.ClassEnd},
		{"256 alone, complete distances", one, manyLens(16, 4), impl.ClassEnd},
		{"256 alone of length 2", lensAt(257, 256, 2), lensAt(1), impl.ClassBad},
		{"256 alone of length 15", lensAt(257, 256, 15), lensAt(1), impl.ClassBad},
		{"one alone that is not 256", lensAt(257, 97, 1), lensAt(1), impl.ClassBad},
		{"complete, but no 256", lensAt(286, 97, 1, 257, 1), lensAt(1), impl.ClassBad},
		{"no literal", lensAt(257), lensAt(1), impl.ClassBad},
		{"literals with room left", lensAt(257, 97, 2, 256, 1), lensAt(1), impl.ClassBad},
		{"too many literals", lensAt(257, 97, 1, 98, 1, 256, 1), lensAt(1), impl.ClassBad},
		{"one literal of length 15 too many", lensAt(258, 97, 1, 256, 1, 257, 15), lensAt(1), impl.ClassBad},
		{"one distance of length 2", two, lensAt(4, 1, 2), impl.ClassBad},
		{"distances with room left", two, lensAt(4, 1, 2, 2, 1), impl.ClassBad},
		{"too many distances", two, lensAt(4, 1, 1, 2, 1, 3, 1), impl.ClassBad},
		{"two distances", two, lensAt(4, 1, 1, 2, 1), impl.ClassEnd},
		{"all literals and distances", mostLits, mostDists, impl.ClassEnd},
		{"all literals, one distance", mostLits, lensAt(1, 0, 1), impl.ClassEnd},
		{"256 of length 8", append([]int64{0}, manyLens(256, 8)...), lensAt(1), impl.ClassEnd},
		{"lengths 1 to 15", append(lensAt(256), stairs(15)...), stairs(15), impl.ClassEnd},
	}
	var out []lensRow
	for _, r := range rows {
		row := headRow(r.what, r.class, headOf(g, r.lits, r.dists))
		row.lits, row.dists = r.lits, r.dists
		out = append(out, row)
	}
	return out
}

// symRows have 257 literals and one distance: 256 zeros are 18 with 127 and 18 with 107.
func symRows() []lensRow {
	rows := []struct {
		what  string
		class int64
		syms  []lenSym
	}{
		{"16 at the beginning", impl.ClassBad, []lenSym{{16, 0}}},
		{"16 behind 0", impl.ClassEnd, []lenSym{{0, 0}, {16, 3}, {16, 0}, {18, 127}, {18, 97}, {1, 0}, {0, 0}}},
		{"16 behind 17", impl.ClassEnd, []lenSym{{17, 0}, {16, 3}, {16, 0}, {18, 127}, {18, 95}, {1, 0}, {0, 0}}},
		{"16 behind 18", impl.ClassEnd, []lenSym{{18, 127}, {16, 3}, {16, 0}, {18, 98}, {1, 0}, {0, 0}}},
		{"one length each", impl.ClassEnd, append(slices.Repeat([]lenSym{{0, 0}}, 256), lenSym{1, 0}, lenSym{0, 0})},
		{"17 alone", impl.ClassEnd, append(slices.Repeat([]lenSym{{17, 5}}, 32), lenSym{1, 0}, lenSym{0, 0})},
		{"ones too many", impl.ClassBad, []lenSym{{1, 0}, {16, 0}, {16, 0}, {18, 127}, {18, 100}, {1, 0}, {0, 0}}},
		{"17 to the end, none for 256", impl.ClassBad, []lenSym{{18, 127}, {18, 105}, {0, 0}, {17, 0}}},
		{"18 to the end, none for 256", impl.ClassBad, []lenSym{{18, 127}, {18, 109}}},
		{"18 past the end by one", impl.ClassBad, []lenSym{{18, 127}, {18, 110}}},
		{"18 past the end by many", impl.ClassBad, []lenSym{{18, 127}, {18, 127}}},
		{"16 past the end behind 256", impl.ClassBad, []lenSym{{18, 127}, {18, 107}, {1, 0}, {16, 0}}},
		{"17 past the end behind 256", impl.ClassBad, []lenSym{{18, 127}, {18, 107}, {1, 0}, {17, 0}}},
		{"18 past the end behind 256", impl.ClassBad, []lenSym{{18, 127}, {18, 107}, {1, 0}, {18, 0}}},
	}
	var out []lensRow
	for _, r := range rows {
		row := headRow(r.what, r.class, lensHead{lits: 257, dists: 1, given: 19, codeLens: lensAt(19, 0, 2, 1, 2, 16, 2, 17, 3, 18, 3), syms: r.syms})
		row.lits, row.dists = lensAt(257, 256, 1), lensAt(1)
		out = append(out, row)
	}
	return out
}

// borderRows have repeats that go over from literals to distances or end just at the last length.
func borderRows() []lensRow {
	twos := func(syms ...lenSym) []lenSym { return append([]lenSym{{18, 127}, {18, 105}, {2, 0}}, syms...) }
	zeros := func(syms ...lenSym) []lenSym { return append([]lenSym{{18, 127}, {18, 107}, {1, 0}}, syms...) }
	twoLits, oneLit := lensAt(258, 254, 2, 255, 2, 256, 2, 257, 2), lensAt(286, 256, 1)
	rows := []struct {
		what        string
		class       int64
		lits, dists []int64
		syms        []lenSym
	}{
		{"16 over the border", impl.ClassEnd, twoLits, manyLens(4, 2), twos(lenSym{16, 3}, lenSym{2, 0})},
		{"16 up to the border and to the end", impl.ClassEnd, twoLits, manyLens(4, 2), twos(lenSym{16, 0}, lenSym{2, 0}, lenSym{16, 0})},
		{"16 over the border and to the end", impl.ClassEnd, twoLits, manyLens(4, 2), twos(lenSym{16, 0}, lenSym{16, 1})},
		{"16 over the border, one past the end", impl.ClassBad, twoLits, manyLens(4, 2), twos(lenSym{16, 0}, lenSym{16, 2})},
		{"16 at the border, one past the end", impl.ClassBad, twoLits, manyLens(4, 2), twos(lenSym{16, 0}, lenSym{2, 0}, lenSym{16, 1})},
		{"17 over the border and to the end", impl.ClassEnd, oneLit[:260], lensAt(5), zeros(lenSym{17, 5})},
		{"17 over the border, one past the end", impl.ClassBad, oneLit[:260], lensAt(5), zeros(lenSym{17, 6})},
		{"17 over the border, one before the end", impl.ClassEnd, oneLit[:260], lensAt(5, 4, 1), zeros(lenSym{17, 4}, lenSym{1, 0})},
		{"18 over the border and to the end", impl.ClassEnd, oneLit[:270], lensAt(30), zeros(lenSym{18, 32})},
		{"18 over the border, one past the end", impl.ClassBad, oneLit[:270], lensAt(30), zeros(lenSym{18, 33})},
		{"18 over the border, one before the end", impl.ClassEnd, oneLit[:270], lensAt(30, 29, 1), zeros(lenSym{18, 31}, lenSym{1, 0})},
		{"all that there may be", impl.ClassEnd, oneLit, lensAt(30), zeros(lenSym{18, 48})},
	}
	code := lensAt(19, 0, 2, 1, 2, 2, 2, 16, 3, 17, 4, 18, 4)
	var out []lensRow
	for _, r := range rows {
		row := headRow(r.what, r.class, lensHead{lits: int64(len(r.lits)), dists: int64(len(r.dists)), given: 19, codeLens: code, syms: r.syms})
		row.lits, row.dists = r.lits, r.dists
		out = append(out, row)
	}
	return out
}

// earlyRows are decided before all lengths are read.
func earlyRows() []lensRow {
	var out []lensRow
	add := func(what string, class int64, w *bitText) { out = append(out, lensRow{what: what, w: w, class: class}) }
	counts := func(lits, dists int64) *bitText { return (&bitText{}).num(lits-257, 5).num(dists-1, 5) }
	add("287 literals", impl.ClassBad, (&bitText{}).num(30, 5))
	add("288 literals", impl.ClassBad, (&bitText{}).num(31, 5))
	add("286 literals and no more", impl.ClassShort, (&bitText{}).num(29, 5))
	add("287 literals, 31 distances", impl.ClassBad, counts(287, 31))
	add("286 literals, 31 distances", impl.ClassBad, counts(286, 31))
	add("257 literals, 32 distances", impl.ClassBad, counts(257, 32))
	add("286 literals, 30 distances and no more", impl.ClassShort, counts(286, 30))
	for _, given := range []int64{4, 5, 18, 19} {
		name := strconv.FormatInt(given, 10) + " code lengths, "
		code := func(lens ...int64) *bitText {
			w := counts(257, 1).num(given-4, 4)
			for i := range given {
				w.num(append(lens, manyLens(19, 0)...)[i], 3)
			}
			return w
		}
		add(name+"none with a code", impl.ClassBad, code())
		add(name+"one alone", impl.ClassBad, code(1))
		add(name+"one of length 2", impl.ClassBad, code(0, 2))
		add(name+"room left", impl.ClassBad, code(1, 2, 3))
		add(name+"one too many", impl.ClassBad, code(1, 1, 7))
		add(name+"all of length 1", impl.ClassBad, code(1, 1, 1, 1))
		add(name+"complete and no more", impl.ClassShort, code(1, 2, 3, 3))
		add(name+"16 first, its 2 bits missing", impl.ClassBad, code(1, 1).code("0"))
		add(name+"zeros alone", impl.ClassBad, code(0, 0, 1, 1).code("1").num(127, 7).code("1").num(109, 7))
	}
	return out
}

func allHeads() []lensRow {
	return slices.Concat(rightHeads(), symRows(), borderRows(), earlyRows())
}

// endsAtAByte has the bits of w so that the last one is the last of its byte, with other bits before them; it tells where they begin.
func endsAtAByte(w *bitText) ([]byte, int64) {
	at := (8 - w.n%8) % 8
	out := (&bitText{}).num(0x55, at)
	for i := range w.n {
		out.num(int64(w.b[i/8]>>(i%8)&1), 1)
	}
	return out.b, at
}

// beginning has the first n bits of w.
func (w *bitText) beginning(n int64) *bitText {
	out := &bitText{}
	for i := range n {
		out.num(int64(w.b[i/8]>>(i%8)&1), 1)
	}
	return out
}

func TestLensByName(t *testing.T) {
	for _, r := range allHeads() {
		b, at := endsAtAByte(r.w)
		got := checkLens(t, r.what, b, at)
		if got.Class != r.class {
			t.Errorf("%s: class %d, not %d", r.what, got.Class, r.class)
		}
		if r.class == impl.ClassEnd && (got.Bits != r.w.n || !slices.Equal(got.Lits, r.lits) || !slices.Equal(got.Dists, r.dists)) {
			t.Errorf("%s: %d bits, not %d, or lengths %v %v", r.what, got.Bits, r.w.n, got.Lits, got.Dists)
		}
		if r.class != impl.ClassEnd && (got.Bits != 0 || len(got.Lits) != 0 || len(got.Dists) != 0) {
			t.Errorf("%s: class %d with %d bits and lengths", r.what, got.Class, got.Bits)
		}
	}
}

// TestLensThatEndTooEarly cuts each head at every bit: all that is before the deciding one is ClassShort.
func TestLensThatEndTooEarly(t *testing.T) {
	for _, r := range allHeads() {
		whole, wholeAt := endsAtAByte(r.w)
		_, read := plainReadLens(whole, wholeAt)
		for n := range r.w.n {
			b, at := endsAtAByte(r.w.beginning(n))
			got := checkLens(t, r.what, b, at)
			if n < read && got.Class != impl.ClassShort || n >= read && got.Class != r.class {
				t.Errorf("%s, the first %d bits: class %d", r.what, n, got.Class)
			}
		}
	}
}

// TestLensAtEveryPlace has heads at every bit of a byte, with bits before and behind that make no difference.
func TestLensAtEveryPlace(t *testing.T) {
	for _, r := range allHeads() {
		if r.class == impl.ClassShort {
			continue
		}
		for at := range int64(19) {
			for _, other := range []string{"0", "1"} {
				w := (&bitText{}).code(strings.Repeat(other, int(at)))
				for i := range r.w.n {
					w.num(int64(r.w.b[i/8]>>(i%8)&1), 1)
				}
				w.code(strings.Repeat(other, 40))
				if got := checkLens(t, r.what, w.b, at); got.Class != r.class {
					t.Errorf("%s at bit %d: class %d", r.what, at, got.Class)
				}
			}
		}
	}
}

func TestLensOutsideTheirBounds(t *testing.T) {
	head := rightHeads()[0].w
	atEnd, at := endsAtAByte(head)
	before := make([]byte, 65536-len(atEnd))
	full := append(before, atEnd...)
	if got := checkLens(t, "InMax bytes", full, 8*int64(len(before))+at); got.Class != impl.ClassEnd || got.Bits != head.n {
		t.Errorf("the last bits of InMax bytes: class %d", got.Class)
	}
	long := append(full, 0)
	for _, at := range []int64{8*int64(len(before)) + at, 0, -1, 8 * 65537, 8*65537 + 1, math.MaxInt64, math.MinInt64} {
		if got := checkLens(t, "InMax + 1 bytes", long, at); got.Class != impl.ClassLong {
			t.Errorf("InMax + 1 bytes at %d: class %d", at, got.Class)
		}
	}
	for _, b := range [][]byte{nil, {}, {0}, head.b, full} {
		end := 8 * int64(len(b))
		for _, at := range []int64{-1, -8, end + 1, end + 8, math.MinInt64, math.MaxInt64, 1 << 32, 1<<32 + 1} {
			if got := checkLens(t, "a place outside", b, at); got.Class != impl.ClassBad {
				t.Errorf("%d bytes at %d: class %d", len(b), at, got.Class)
			}
		}
		for _, at := range []int64{end, max(0, end-1), max(0, end-4)} {
			if got := checkLens(t, "a place at the end", b, at); got.Class != impl.ClassShort {
				t.Errorf("%d bytes at %d: class %d", len(b), at, got.Class)
			}
		}
	}
}

// noiseHead is a right head of noise's choice; its code has the kinds that are wrong now and then.
func noiseHead(g *noise) lensHead {
	lits := withGaps(g, splitLens(g, 2+int(g.below(200)), 8+g.below(8)), 257+int(g.below(30)))
	dists := withGaps(g, splitLens(g, 2+int(g.below(20)), 5+g.below(11)), 22+int(g.below(9)))
	switch g.below(6) {
	case 0:
		dists = lensAt(int(1+g.below(30)), 0, g.below(3))
	case 1:
		lits[g.below(int64(len(lits)))] = g.below(16)
	}
	return headOf(g, lits, dists)
}

func TestLensOfNoise(t *testing.T) {
	g := &noise{62}
	var seen [8]int
	for range 1500 {
		w := (&bitText{}).num(int64(g.next()), g.below(9))
		at := w.n
		w.lens(noiseHead(g)).num(int64(g.next()), 20)
		seen[checkLens(t, "noise", w.b, at).Class]++
		for range 4 {
			b := bytes.Clone(w.b)
			b[g.below(min(int64(len(b)), 40))] ^= 1 << g.below(8)
			seen[checkLens(t, "noise, one bit turned", b, at).Class]++
			seen[checkLens(t, "noise, cut", b[:1+at/8+g.below(int64(len(b))-at/8)], at).Class]++
		}
		b := noiseText(g.next(), int(g.below(80)))
		seen[checkLens(t, "noise alone", b, g.below(8*int64(len(b))+1)).Class]++
	}
	for _, class := range []int{impl.ClassEnd, impl.ClassShort, impl.ClassBad} {
		if seen[class] < 200 {
			t.Errorf("class %d only %d times", class, seen[class])
		}
	}
}

func TestLensKeepTheirMemoryApart(t *testing.T) {
	for _, r := range allHeads() {
		g := guard(r.w.b)
		first, second := impl.ReadLens(g.arg(), 0), impl.ReadLens(g.arg(), 0)
		g.check(t, r.what)
		for i := range first.Lits[:cap(first.Lits)] {
			first.Lits[:cap(first.Lits)][i] = 77
		}
		if !slices.Equal(first.Dists, second.Dists) {
			t.Errorf("%s: Lits share memory with Dists", r.what)
		}
		for i := range second.Dists[:cap(second.Dists)] {
			second.Dists[:cap(second.Dists)][i] = 77
		}
		if third := impl.ReadLens(g.arg(), 0); !slices.Equal(second.Lits, third.Lits) {
			t.Errorf("%s: Dists share memory with Lits", r.what)
		}
	}
}

// infRow is a text to be inflated. Its class, and in most rows its output, are told by hand.
type infRow struct {
	what  string
	b     []byte
	size  int64
	dict  []byte
	class int64
	out   []byte
}

func fixedBlock(last int64) (*bitText, bitCodes) {
	return (&bitText{}).head(last, 1), fixedCodes()
}

func storedRows() []infRow {
	hello := []byte("hello")
	misfit := func(a, b int64) []byte { return (&bitText{}).head(1, 0).fill("0").num(a, 16).num(b, 16).b }
	behindFixed := func(fill string, data string) []byte {
		w, c := fixedBlock(0)
		return w.text(c, []byte("ab")).lit(c, 256).stored(1, fill, []byte(data)).b
	}
	whole := (&bitText{}).stored(1, "0", hello).b
	most := noiseText(63, 65531)
	return []infRow{
		{"stored, no bytes", (&bitText{}).stored(1, "0", nil).b, 5, nil, impl.ClassEnd, nil},
		{"stored, ones passed over", (&bitText{}).stored(1, "1", nil).b, 5, nil, impl.ClassEnd, nil},
		{"stored", whole, 32768, nil, impl.ClassEnd, hello},
		{"stored, more bytes than the window", whole, 2, nil, impl.ClassEnd, hello},
		{"stored, no last one", (&bitText{}).stored(0, "0", hello).b, 2, nil, impl.ClassShort, hello},
		{"stored, three of them", (&bitText{}).stored(0, "0", hello).stored(0, "1", nil).stored(1, "0", hello).b, 2, nil, impl.ClassEnd, []byte("hellohello")},
		{"stored, cut within the bytes", whole[:8], 9, nil, impl.ClassShort, []byte("hel")},
		{"stored, cut at the bytes", whole[:5], 9, nil, impl.ClassShort, nil},
		{"stored, cut within the second number", whole[:4], 9, nil, impl.ClassShort, nil},
		{"stored, cut within the first number", whole[:2], 9, nil, impl.ClassShort, nil},
		{"stored, numbers that do not fit", misfit(5, 65531), 9, nil, impl.ClassBad, nil},
		{"stored, equal numbers", misfit(5, 5), 9, nil, impl.ClassBad, nil},
		{"stored, zeros", misfit(0, 0), 9, nil, impl.ClassBad, nil},
		{"stored, the highest bit wrong", misfit(0, 32767), 9, nil, impl.ClassBad, nil},
		{"stored, misfit cut short", misfit(5, 0)[:4], 9, nil, impl.ClassShort, nil},
		{"stored within a byte", behindFixed("0", "xyz"), 9, nil, impl.ClassEnd, []byte("abxyz")},
		{"stored within a byte, ones passed over", behindFixed("1", "xyz"), 9, nil, impl.ClassEnd, []byte("abxyz")},
		{"stored of InMax bytes in all", (&bitText{}).stored(1, "0", most).b, 32768, nil, impl.ClassEnd, most},
	}
}

func fixedRows() []infRow {
	c := fixedCodes()
	fixed := func() *bitText { w, _ := fixedBlock(1); return w }
	every := make([]byte, 256)
	for i := range every {
		every[i] = byte(i)
	}
	two, _ := fixedBlock(0)
	two.text(c, []byte("ab")).lit(c, 256).head(0, 1).lit(c, 256).head(1, 1).text(c, []byte("c")).copied(c, 3, 3).lit(c, 256)
	a := []byte("a")
	return []infRow{
		{"fixed, no data", fixed().lit(c, 256).b, 1, nil, impl.ClassEnd, nil},
		{"fixed, every byte", fixed().text(c, every).lit(c, 256).b, 1, nil, impl.ClassEnd, every},
		{"fixed, three of them", two.b, 3, nil, impl.ClassEnd, []byte("abcabc")},
		{"fixed, no end", fixed().text(c, []byte("abc")).b, 3, nil, impl.ClassShort, []byte("abc")},
		{"fixed, 286", fixed().lit(c, 97, 286).b, 3, nil, impl.ClassBad, a},
		{"fixed, 287", fixed().lit(c, 97, 287).b, 3, nil, impl.ClassBad, a},
		{"fixed, distance 30", fixed().lit(c, 97, 257).code(c.dists[30]).b, 3, nil, impl.ClassBad, a},
		{"fixed, distance 31", fixed().lit(c, 97, 257).code(c.dists[31]).b, 3, nil, impl.ClassBad, a},
		{"fixed, a distance cut short", fixed().lit(c, 97, 257).code("1111").b[:2], 3, nil, impl.ClassShort, a},
		{"fixed, 285 with distance 1", fixed().lit(c, 97, 285).dist(c, 1).lit(c, 256).b, 3, nil, impl.ClassEnd, bytes.Repeat(a, 259)},
		{"fixed, 284 with all ones", fixed().lit(c, 97, 284).num(31, 5).dist(c, 1).lit(c, 256).b, 3, nil, impl.ClassEnd, bytes.Repeat(a, 259)},
		{"fixed, a copy of 257", fixed().lit(c, 97).copied(c, 257, 1).lit(c, 256).b, 3, nil, impl.ClassEnd, bytes.Repeat(a, 258)},
		{"fixed, a copy of 3", fixed().lit(c, 97).copied(c, 3, 1).lit(c, 256).b, 3, nil, impl.ClassEnd, bytes.Repeat(a, 4)},
		{"fixed, a copy of nothing", fixed().copied(c, 3, 1).lit(c, 256).b, 3, nil, impl.ClassBad, nil},
		{"kind 3", (&bitText{}).head(1, 3).b, 3, nil, impl.ClassBad, nil},
		{"kind 3, not the last", (&bitText{}).head(0, 3).b, 3, nil, impl.ClassBad, nil},
		{"kind 3 behind a block", (&bitText{}).stored(0, "0", a).head(1, 3).b, 3, nil, impl.ClassBad, a},
		{"no bit", nil, 3, nil, impl.ClassShort, nil},
	}
}

// dynamicBlock has the code of lits and dists; what stands in it is written by the caller.
func dynamicBlock(w *bitText, last int64, lits, dists []int64) bitCodes {
	w.head(last, 2).lens(headOf(&noise{64}, lits, dists))
	return bitCodes{plainCodes(lits), plainCodes(dists)}
}

func dynamicRow(what string, class int64, out string, lits, dists []int64, write func(*bitText, bitCodes)) infRow {
	w := &bitText{}
	write(w, dynamicBlock(w, 1, lits, dists))
	return infRow{what, w.b, 300, nil, class, []byte(out)}
}

func dynamicRows() []infRow {
	small := lensAt(260, 97, 2, 98, 2, 256, 2, 258, 2)
	long := append(lensAt(256), stairs(15)...)
	abc := "ab" + "abab"
	copyAfter := func(w *bitText, c bitCodes) { w.text(c, []byte("ab")).copied(c, 4, 2).lit(c, 256) }
	rows := []infRow{
		dynamicRow("dynamic, two distances", impl.ClassEnd, abc, small, lensAt(2, 0, 1, 1, 1), copyAfter),
		dynamicRow("dynamic, one distance", impl.ClassEnd, abc, small, lensAt(2, 1, 1), copyAfter),
		dynamicRow("dynamic, one distance, the other bit", impl.ClassBad, "ab", small, lensAt(2, 1, 1), func(w *bitText, c bitCodes) { w.text(c, []byte("ab")).length(c, 4).code("1") }),
		dynamicRow("dynamic, no distance, but a copy", impl.ClassBad, "ab", small, lensAt(2), func(w *bitText, c bitCodes) { w.text(c, []byte("ab")).length(c, 4) }),
		dynamicRow("dynamic, no distance, no copy", impl.ClassEnd, "ab", small, lensAt(2), func(w *bitText, c bitCodes) { w.text(c, []byte("ab")).lit(c, 256) }),
		dynamicRow("dynamic, 256 alone", impl.ClassEnd, "", lensAt(257, 256, 1), lensAt(1), func(w *bitText, c bitCodes) { w.code("0") }),
		dynamicRow("dynamic, 256 alone, the other bit", impl.ClassBad, "", lensAt(257, 256, 1), lensAt(1), func(w *bitText, c bitCodes) { w.code("1") }),
		dynamicRow("dynamic, a window too small", impl.ClassBad, "ab", small, lensAt(4, 3, 1), func(w *bitText, c bitCodes) { w.text(c, []byte("ab")).copied(c, 4, 4) }),
		dynamicRow("dynamic, codes of 15 bits", impl.ClassBad, "", long, stairs(15), func(w *bitText, c bitCodes) { w.copied(c, 13, 129) }),
		dynamicRow("dynamic, wrong lengths", impl.ClassBad, "", lensAt(257, 97, 1), lensAt(1), func(*bitText, bitCodes) {}),
	}
	w := &bitText{}
	c := dynamicBlock(w, 0, small, lensAt(2, 0, 1, 1, 1))
	w.text(c, []byte("ab")).lit(c, 256)
	c = dynamicBlock(w, 0, lensAt(257, 99, 1, 256, 1), lensAt(30))
	w.text(c, []byte("cc")).lit(c, 256).stored(0, "1", []byte("stored"))
	c = dynamicBlock(w, 0, small, lensAt(7, 6, 1))
	w.text(c, []byte("b")).copied(c, 4, 11).lit(c, 256).head(0, 1).copied(fixedCodes(), 3, 1).lit(fixedCodes(), 256)
	c = dynamicBlock(w, 1, lensAt(257, 256, 1), lensAt(1))
	w.lit(c, 256)
	return append(rows, infRow{"several of each kind", w.b, 300, nil, impl.ClassEnd, []byte("abccstoredb" + "abcc" + "ccc")})
}

// windowRows ask for the farthest byte and for one farther, in windows with less and with more before them.
func windowRows() []infRow {
	dict := noiseText(65, 40000)
	var rows []infRow
	for _, size := range []int64{1, 2, 3, 5, 256, 300, 32767, 32768} {
		for _, before := range []int64{0, 1, 2, size - 1, size, size + 1, 40000} {
			for _, told := range []int64{0, 1, 2, 300} {
				if before > 40000 {
					continue
				}
				all := append(bytes.Clone(dict[40000-before:]), noiseText(66, int(told))...)
				most := min(size, before+told)
				for _, dist := range []int64{1, most - 1, most, most + 1, 32768} {
					if dist < 1 || dist > 32768 {
						continue
					}
					w, c := fixedBlock(1)
					w.text(c, all[before:]).copied(c, 5, dist).lit(c, 256)
					r := infRow{"a distance", w.b, size, all[:before], impl.ClassBad, all[before:]}
					if dist <= most {
						r.class, r.out = impl.ClassEnd, plainCopy(all, dist, 5)[before:]
					}
					rows = append(rows, r)
				}
			}
		}
	}
	return rows
}

// nearLimit has told n bytes, all the same, in a block that is still open.
func nearLimit(n int64) (*bitText, bitCodes) {
	w, c := fixedBlock(1)
	w.lit(c, 97)
	for n--; n > 0; {
		part := min(n, 258)
		if n-part > 0 && n-part < 3 {
			part -= 3
		}
		if part < 3 {
			w.lit(c, slices.Repeat([]int64{97}, int(part))...)
		} else {
			w.copied(c, part, 1)
		}
		n -= part
	}
	return w, c
}

func limitRows() []infRow {
	most := bytes.Repeat([]byte("a"), 100000)
	var rows []infRow
	add := func(what string, n, class, out int64, write func(*bitText, bitCodes)) {
		w, c := nearLimit(n)
		write(w, c)
		rows = append(rows, infRow{what, w.b, 32768, nil, class, most[:out]})
	}
	add("OutMax", 100000, impl.ClassEnd, 100000, func(w *bitText, c bitCodes) { w.lit(c, 256) })
	add("OutMax by a byte", 99999, impl.ClassEnd, 100000, func(w *bitText, c bitCodes) { w.lit(c, 97, 256) })
	add("OutMax by a copy of 3", 99997, impl.ClassEnd, 100000, func(w *bitText, c bitCodes) { w.copied(c, 3, 9).lit(c, 256) })
	add("OutMax by a copy of 258", 99742, impl.ClassEnd, 100000, func(w *bitText, c bitCodes) { w.copied(c, 258, 9).lit(c, 256) })
	add("one more by a byte", 100000, impl.ClassLarge, 100000, func(w *bitText, c bitCodes) { w.lit(c, 97, 256) })
	add("one more by a byte and 286", 100000, impl.ClassLarge, 100000, func(w *bitText, c bitCodes) { w.lit(c, 97, 286) })
	add("one more by a copy", 99998, impl.ClassLarge, 99998, func(w *bitText, c bitCodes) { w.copied(c, 3, 1).lit(c, 97, 256) })
	add("one more by a copy of 258", 99743, impl.ClassLarge, 99743, func(w *bitText, c bitCodes) { w.copied(c, 258, 1).lit(c, 256) })
	add("many more by a copy", 100000, impl.ClassLarge, 100000, func(w *bitText, c bitCodes) { w.copied(c, 258, 1) })
	add("a copy at the limit from the farthest byte", 100000, impl.ClassLarge, 100000, func(w *bitText, c bitCodes) { w.copied(c, 3, 32768) })
	add("286 at the limit", 100000, impl.ClassBad, 100000, func(w *bitText, c bitCodes) { w.lit(c, 286) })
	add("distance 30 at the limit", 100000, impl.ClassBad, 100000, func(w *bitText, c bitCodes) { w.lit(c, 285).code(c.dists[30]) })
	return append(rows, moreLimitRows(most)...)
}

// moreLimitRows come to the limit in a stored block behind the first one, or in a small window.
func moreLimitRows(most []byte) []infRow {
	open := func(n int64) *bitText {
		w, c := nearLimit(n)
		w.b[0] &^= 1
		return w.lit(c, 256)
	}
	as := func(n int) []byte { return bytes.Repeat([]byte("a"), n) }
	cut := open(100000).stored(1, "0", as(4)).b
	far, c := nearLimit(100000)
	far.copied(c, 3, 2)
	misfit := open(100000).head(1, 0).fill("0").num(3, 16).num(3, 16).b
	return []infRow{
		{"OutMax by a stored block", open(99996).stored(1, "0", as(4)).b, 9, nil, impl.ClassEnd, most},
		{"one more by a stored block", open(99997).stored(1, "0", as(4)).b, 9, nil, impl.ClassLarge, most},
		{"many more by a stored block", open(40000).stored(1, "0", as(64000)).b, 9, nil, impl.ClassLarge, most},
		{"a stored block at the limit", cut, 9, nil, impl.ClassLarge, most},
		{"a stored block at the limit, one of its bytes", cut[:len(cut)-3], 9, nil, impl.ClassLarge, most},
		{"a stored block at the limit, none of its bytes", cut[:len(cut)-4], 9, nil, impl.ClassShort, most},
		{"an empty stored block at the limit", open(100000).stored(1, "0", nil).b, 9, nil, impl.ClassEnd, most},
		{"a stored block at the limit with numbers that do not fit", misfit, 9, nil, impl.ClassBad, most},
		{"a copy at the limit from behind the window", far.b, 1, nil, impl.ClassBad, most},
		{"the limit with a dictionary", open(100000).stored(1, "0", nil).b, 32768, noiseText(67, 32768), impl.ClassEnd, most},
	}
}

func inflateRows() []infRow {
	return slices.Concat(storedRows(), fixedRows(), dynamicRows(), windowRows(), limitRows())
}

func TestInflateByName(t *testing.T) {
	for _, r := range inflateRows() {
		got := checkInflate(t, r.what, r.b, r.size, r.dict)
		if got.Class != r.class || !bytes.Equal(got.Out, r.out) {
			t.Errorf("%s, size %d: class %d, %d bytes told; not class %d, %d bytes (or other bytes)", r.what, r.size, got.Class, len(got.Out), r.class, len(r.out))
		}
		if got.Class != impl.ClassEnd && got.Bits != 0 {
			t.Errorf("%s: class %d with %d bits", r.what, got.Class, got.Bits)
		}
		if got.Class == impl.ClassEnd && (got.Bits+7)/8 != int64(len(r.b)) {
			t.Errorf("%s: %d bits of %d bytes", r.what, got.Bits, len(r.b))
		}
	}
}

func TestBitsOfKnownTexts(t *testing.T) {
	rows := []struct {
		b    []byte
		out  string
		bits int64
	}{
		{[]byte{0x4b, 4, 0}, "a", 18},
		{[]byte{3, 0}, "", 10},
		{[]byte{1, 0, 0, 0xff, 0xff}, "", 40},
		{[]byte{1, 5, 0, 0xfa, 0xff, 'h', 'e', 'l', 'l', 'o'}, "hello", 80},
		{[]byte{2, 0, 0, 0, 0xff, 0xff, 3, 0}, "", 58},
	}
	for i, r := range rows {
		for _, behind := range [][]byte{nil, {0}, {0xff, 0xff}, noiseText(68, 500)} {
			got := checkInflate(t, "known", append(bytes.Clone(r.b), behind...), 32768, nil)
			if got.Class != impl.ClassEnd || string(got.Out) != r.out || got.Bits != r.bits {
				t.Errorf("row %d: class %d, %q, %d bits", i, got.Class, got.Out, got.Bits)
			}
		}
	}
}

// TestEveryLength has all copy lengths, each by all symbols and extra bits that make it.
func TestEveryLength(t *testing.T) {
	dict := noiseText(69, 300)
	bases, extras := plainLengths()
	for s := range bases {
		for more := range int64(1) << extras[s] {
			w, c := fixedBlock(1)
			w.lit(c, int64(257+s)).num(more, extras[s]).dist(c, 280).lit(c, 256)
			n := bases[s] + more
			got := impl.Inflate(w.b, 300, dict)
			if got.Class != impl.ClassEnd || !bytes.Equal(got.Out, dict[20:20+n]) || got.Bits != w.n {
				t.Errorf("symbol %d with %d: class %d, %d bytes, not %d", 257+s, more, got.Class, len(got.Out), n)
			}
		}
	}
}

// TestEveryDistance has each distance symbol with every extra bit alone, with none and with all, and its farthest byte missing.
func TestEveryDistance(t *testing.T) {
	dict := noiseText(70, 32768)
	bases, extras := plainDists()
	for s := range bases {
		mores := []int64{0, 1<<extras[s] - 1}
		for i := range extras[s] {
			mores = append(mores, 1<<i)
		}
		for _, more := range mores {
			dist := bases[s] + more
			w, c := fixedBlock(1)
			w.lit(c, 257).code(c.dists[s]).num(more, extras[s]).lit(c, 256)
			got := impl.Inflate(w.b, 32768, dict)
			if want := plainCopy(dict, dist, 3)[32768:]; got.Class != impl.ClassEnd || !bytes.Equal(got.Out, want) || got.Bits != w.n {
				t.Errorf("distance symbol %d with %d: class %d, %x, not %x", s, more, got.Class, got.Out, want)
			}
			near := impl.Inflate(w.b, 32768, dict[:dist-1])
			small := impl.Inflate(w.b, max(1, dist-1), dict)
			if near.Class != impl.ClassBad || dist > 1 && small.Class != impl.ClassBad {
				t.Errorf("distance %d past the window: classes %d, %d", dist, near.Class, small.Class)
			}
		}
	}
}

func TestInflateOutsideItsBounds(t *testing.T) {
	whole := []byte{0x4b, 4, 0}
	full := append(bytes.Clone(whole), make([]byte, 65533)...)
	long := append(bytes.Clone(full), 0)
	for _, size := range append(oddSizes(), 1, 32768) {
		for _, b := range [][]byte{nil, whole, full} {
			got := checkInflate(t, "sizes", b, size, []byte("d"))
			if (size < 1 || size > 32768) && !sameInf(got, impl.InfRes{Class: impl.ClassBad}) {
				t.Errorf("size %d: class %d, %d bytes", size, got.Class, len(got.Out))
			}
		}
		for _, b := range [][]byte{long, make([]byte, 65537), make([]byte, 200000)} {
			if got := impl.Inflate(b, size, nil); !sameInf(got, impl.InfRes{Class: impl.ClassLong}) {
				t.Errorf("%d bytes, size %d: class %d, %d bytes", len(b), size, got.Class, len(got.Out))
			}
		}
	}
	if got := impl.Inflate(full, 1, nil); !sameInf(got, impl.InfRes{Class: impl.ClassEnd, Out: []byte("a"), Bits: 18}) {
		t.Errorf("InMax bytes: class %d", got.Class)
	}
}

// checkBeginnings holds the answers for all beginnings of a text against that for the whole.
func checkBeginnings(t *testing.T, r infRow) {
	t.Helper()
	whole := impl.Inflate(r.b, r.size, r.dict)
	_, read := plainInflate(r.b, r.size, r.dict)
	for n := range len(r.b) + 1 {
		got := impl.Inflate(r.b[:n], r.size, r.dict)
		if !bytes.HasPrefix(whole.Out, got.Out) {
			t.Fatalf("%s: the first %d bytes tell what the whole does not", r.what, n)
		}
		all := 8*int64(n) >= read
		if all && whole.Class != impl.ClassShort && !sameInf(got, whole) {
			t.Errorf("%s: all that was read is in the first %d bytes, but class %d, %d bytes told", r.what, n, got.Class, len(got.Out))
		}
		if !all && got.Class != impl.ClassShort {
			t.Errorf("%s: the first %d bytes: class %d", r.what, n, got.Class)
		}
	}
}

func TestBeginnings(t *testing.T) {
	var classes [8]int
	for _, r := range inflateRows() {
		if len(r.b) > 1000 {
			continue
		}
		r.b = append(bytes.Clone(r.b), 0x55, 0xaa, 0, 0xff)
		checkBeginnings(t, r)
		classes[impl.Inflate(r.b, r.size, r.dict).Class]++
	}
	for _, class := range []int{impl.ClassEnd, impl.ClassShort, impl.ClassBad, impl.ClassLarge} {
		if classes[class] == 0 {
			t.Errorf("no text of class %d", class)
		}
	}
}

// TestBeginningsAgainstThePlainReading looks at what each beginning tells, and not only whether the whole tells it too.
func TestBeginningsAgainstThePlainReading(t *testing.T) {
	for _, r := range slices.Concat(storedRows(), fixedRows(), dynamicRows()) {
		for n := range min(len(r.b), 400) {
			checkInflate(t, r.what+", a beginning", r.b[:n], r.size, r.dict)
		}
	}
}

func TestBytesBehindTheEnd(t *testing.T) {
	for _, r := range inflateRows() {
		for _, behind := range [][]byte{{0}, {0xff}, noiseText(71, 30), r.b} {
			long := append(bytes.Clone(r.b), behind...)
			if r.class != impl.ClassEnd || len(long) > 65536 {
				continue
			}
			if !sameInf(impl.Inflate(long, r.size, r.dict), impl.Inflate(r.b, r.size, r.dict)) {
				t.Errorf("%s: %d bytes behind the end make a difference", r.what, len(behind))
			}
		}
	}
}

func TestBitsBehindTheEnd(t *testing.T) {
	for _, r := range slices.Concat(fixedRows(), dynamicRows()) {
		want := impl.Inflate(r.b, r.size, r.dict)
		if want.Class != impl.ClassEnd || want.Bits%8 == 0 {
			continue
		}
		for bit := want.Bits % 8; bit < 8; bit++ {
			turned := bytes.Clone(r.b)
			turned[want.Bits/8] ^= 1 << bit
			if !sameInf(impl.Inflate(turned, r.size, r.dict), want) {
				t.Errorf("%s: bit %d of the last byte makes a difference", r.what, bit)
			}
		}
	}
}

// flateTexts are texts of different makes.
func flateTexts() map[string][]byte {
	g := &noise{72}
	words := []string{"window ", "of ", "bits ", "in ", "chunks ", "and ", "the ", "pieces "}
	var prose []byte
	for len(prose) < 90000 {
		prose = append(prose, words[g.below(int64(len(words)))]...)
	}
	return map[string][]byte{"nothing": nil, "one byte": {7}, "prose": prose, "short prose": prose[:300], "noise": noiseText(73, 60000), "zeros": make([]byte, 100000), "few bytes": bytes.Repeat(noiseText(74, 40), 900)}
}

func deflated(t *testing.T, level int, text, dict []byte) []byte {
	t.Helper()
	var b bytes.Buffer
	w, err := flate.NewWriterDict(&b, level, dict)
	if err != nil {
		t.Fatal(err)
	}
	w.Write(text)
	w.Close()
	return b.Bytes()
}

// TestInflateOfAnotherEncoder takes the library's encoder, which makes dynamic blocks.
func TestInflateOfAnotherEncoder(t *testing.T) {
	dict := []byte("the pieces of the window and the chunks of bits in the window")
	for what, text := range flateTexts() {
		for _, level := range []int{flate.HuffmanOnly, flate.NoCompression, 1, 2, 6, 9} {
			for _, d := range [][]byte{nil, dict} {
				b := deflated(t, level, text, d)
				if len(b) > 65536 {
					continue
				}
				got := impl.Inflate(b, 32768, d)
				if got.Class != impl.ClassEnd || !bytes.Equal(got.Out, text) || (got.Bits+7)/8 != int64(len(b)) {
					t.Errorf("%s, level %d: class %d, %d bytes told, %d bits of %d bytes", what, level, got.Class, len(got.Out), got.Bits, len(b))
				}
			}
		}
	}
}

// TestInflateOfChangedTexts turns bits in codes of all kinds; what comes out is what the plain reading tells.
func TestInflateOfChangedTexts(t *testing.T) {
	g := &noise{75}
	var seen [8]int
	for what, text := range flateTexts() {
		for _, level := range []int{flate.HuffmanOnly, 1, 9} {
			text := text[:min(len(text), 700)]
			b := deflated(t, level, text, nil)
			for range 120 {
				changed := bytes.Clone(b)
				for range 1 + g.below(3) {
					changed[g.below(int64(len(changed)))] ^= 1 << g.below(8)
				}
				seen[checkInflate(t, what, changed, 1<<g.below(16), text[:g.below(int64(len(text))+1)]).Class]++
				seen[checkInflate(t, what, changed[:g.below(int64(len(changed)))], 32768, nil).Class]++
			}
		}
	}
	for range 4000 {
		seen[checkInflate(t, "noise", noiseText(g.next(), int(g.below(60))), 1+g.below(300), noiseText(g.next(), int(g.below(300)))).Class]++
	}
	for _, class := range []int{impl.ClassEnd, impl.ClassShort, impl.ClassBad} {
		if seen[class] < 100 {
			t.Errorf("class %d only %d times", class, seen[class])
		}
	}
}

// noiseBlock writes a block of noise's choice: mostly right, and its copies mostly within the window.
func noiseBlock(g *noise, w *bitText, last, told int64) int64 {
	c := fixedCodes()
	switch g.below(4) {
	case 0:
		n := g.below(60)
		w.stored(last, strconv.FormatInt(g.below(2), 10), noiseText(g.next(), int(n)))
		return told + n
	case 1:
		w.head(last, 1)
	default:
		h := noiseHead(g)
		lits, dists := splitLens(g, 286, 9+g.below(7)), splitLens(g, 30, 6+g.below(10))
		if g.below(8) > 0 {
			h = headOf(g, lits, dists)
		}
		w.head(last, 2).lens(h)
		c = bitCodes{plainCodes(lits), plainCodes(dists)}
	}
	for range g.below(60) {
		if g.below(2) == 0 || told == 0 {
			w.lit(c, g.below(256))
			told++
			continue
		}
		n := 3 + g.below(256)
		w.copied(c, n, 1+g.below(min(told+g.below(2), 32768)))
		told += n
	}
	w.lit(c, 256)
	return told
}

func TestInflateOfNoiseBlocks(t *testing.T) {
	g := &noise{76}
	var seen [8]int
	for range 300 {
		w, told := &bitText{}, int64(0)
		dict := noiseText(g.next(), int(g.below(400)))
		blocks := 1 + g.below(5)
		for i := range blocks {
			told = noiseBlock(g, w, (i+1)/blocks, told)
		}
		seen[checkInflate(t, "blocks", w.b, 32768, dict).Class]++
		seen[checkInflate(t, "blocks, a small window", w.b, 1<<g.below(15), dict).Class]++
		seen[checkInflate(t, "blocks, cut", w.b[:g.below(int64(len(w.b)))], 32768, dict).Class]++
		w.b[g.below(int64(len(w.b)))] ^= 1 << g.below(8)
		seen[checkInflate(t, "blocks, one bit turned", w.b, 32768, dict).Class]++
	}
	if seen[impl.ClassEnd] < 100 || seen[impl.ClassBad] < 100 || seen[impl.ClassShort] < 100 {
		t.Errorf("classes %v", seen)
	}
}

// TestManySmallBlocks has as many blocks as InMax bytes hold.
func TestManySmallBlocks(t *testing.T) {
	w, c := &bitText{}, fixedCodes()
	for w.n < 8*65536-30 {
		w.head(0, 1).lit(c, 256)
	}
	w.head(1, 1).lit(c, 256)
	if got := impl.Inflate(w.b, 1, nil); got.Class != impl.ClassEnd || len(got.Out) != 0 || got.Bits != w.n {
		t.Errorf("class %d, %d bits", got.Class, got.Bits)
	}
}

func TestInflateKeepsItsMemoryApart(t *testing.T) {
	for _, r := range inflateRows() {
		if len(r.b) > 1000 || len(r.out) > 1000 {
			continue
		}
		b, dict := guard(r.b), guard(r.dict)
		got := impl.Inflate(b.arg(), r.size, dict.arg())
		b.check(t, r.what)
		dict.check(t, r.what)
		checkApart(t, r.what, got.Out, b.whole, dict.whole)
		if again := impl.Inflate(b.arg(), r.size, dict.arg()); again.Class != r.class || !bytes.Equal(again.Out, r.out) {
			t.Errorf("%s: a second answer hangs on what became of the first", r.what)
		}
	}
}

func TestInflateOfOneListTwice(t *testing.T) {
	g := guard((&bitText{}).stored(1, "0", []byte("hello")).b)
	if got := impl.Inflate(g.arg(), 32768, g.arg()); got.Class != impl.ClassEnd || string(got.Out) != "hello" {
		t.Errorf("class %d, %q", got.Class, got.Out)
	}
	g.check(t, "text and dictionary in one")
}

// plainStored puts the data into blocks one by one.
func plainStored(data []byte, per int) []byte {
	w := &bitText{}
	for {
		part := data[:min(per, len(data))]
		data = data[len(part):]
		if len(data) == 0 {
			return w.stored(1, "0", part).b
		}
		w.stored(0, "0", part)
	}
}

func TestEncodeStored(t *testing.T) {
	text := noiseText(77, 100001)
	for _, per := range []int64{1, 2, 3, 255, 256, 257, 65534, 65535} {
		for _, n := range []int64{0, 1, 2, 3, per - 1, per, per + 1, 2*per - 1, 2 * per, 2*per + 1, 1000} {
			if n > 100000 {
				continue
			}
			got := impl.EncodeStored(text[:n], per)
			if !bytes.Equal(got, plainStored(text[:n], int(per))) {
				t.Errorf("%d bytes, per %d: %d bytes, or others", n, per, len(got))
			}
		}
	}
	if got := impl.EncodeStored(text[:100000], 65535); !bytes.Equal(got, plainStored(text[:100000], 65535)) {
		t.Errorf("OutMax bytes: %d bytes", len(got))
	}
	if got := impl.EncodeStored(text[:100000], 1); len(got) != 600000 {
		t.Errorf("OutMax bytes, per 1: %d bytes", len(got))
	}
	for _, per := range []int64{1, 9, 65535} {
		if got := impl.EncodeStored(text, per); len(got) != 0 {
			t.Errorf("OutMax + 1 bytes: %d bytes", len(got))
		}
	}
	for _, per := range []int64{0, -1, -65535, 65536, 65537, 1 << 32, 1<<32 + 1, math.MinInt64, math.MaxInt64} {
		for _, n := range []int{0, 1, 1000} {
			if got := impl.EncodeStored(text[:n], per); len(got) != 0 {
				t.Errorf("per %d: %d bytes", per, len(got))
			}
		}
	}
}

func TestEncodeFixed(t *testing.T) {
	text := noiseText(78, 100001)
	every := make([]byte, 256)
	for i := range every {
		every[i] = byte(i)
	}
	for _, data := range [][]byte{nil, {}, {143}, {144}, {143, 144}, {255}, {0}, every, text[:1], text[:2], text[:1000], text[:100000]} {
		w, c := fixedBlock(1)
		w.text(c, data).lit(c, 256)
		if got := impl.EncodeFixed(data); !bytes.Equal(got, w.b) {
			t.Errorf("%d bytes: %d bytes, not %d, or others", len(data), len(got), len(w.b))
		}
	}
	for x := range 256 {
		w, c := fixedBlock(1)
		if got := impl.EncodeFixed([]byte{byte(x)}); !bytes.Equal(got, w.lit(c, int64(x), 256).b) {
			t.Errorf("byte %d: %x", x, got)
		}
	}
	if got := impl.EncodeFixed(text); len(got) != 0 {
		t.Errorf("OutMax + 1 bytes: %d bytes", len(got))
	}
}

func checkBack(t *testing.T, what string, code, data []byte) {
	t.Helper()
	if len(code) > 65536 {
		return
	}
	got := impl.Inflate(code, 1, nil)
	if got.Class != impl.ClassEnd || !bytes.Equal(got.Out, data) || (got.Bits+7)/8 != int64(len(code)) {
		t.Errorf("%s of %d bytes: class %d, %d bytes told, %d bits of %d bytes", what, len(data), got.Class, len(got.Out), got.Bits, len(code))
	}
}

func TestCodesGiveTheDataBack(t *testing.T) {
	text := noiseText(79, 100000)
	low := bytes.Clone(text)
	for i := range low {
		low[i] %= 144
	}
	for _, n := range []int{0, 1, 2, 3, 100, 142, 143, 144, 145, 1000, 10922, 10923, 40000, 58000, 61000, 65000, 65531} {
		checkBack(t, "EncodeFixed", impl.EncodeFixed(text[:n]), text[:n])
		checkBack(t, "EncodeFixed, bytes below 144", impl.EncodeFixed(low[:n]), low[:n])
		for _, per := range []int64{1, 2, 7, 1000, 65535} {
			checkBack(t, "EncodeStored", impl.EncodeStored(text[:n], per), text[:n])
		}
	}
	if code := impl.EncodeStored(text[:65531], 65535); len(code) != 65536 {
		t.Errorf("65531 bytes stored are %d", len(code))
	}
	if code := impl.EncodeFixed(low[:65534]); len(code) != 65536 {
		t.Errorf("65534 low bytes fixed are %d", len(code))
	} else {
		checkBack(t, "EncodeFixed of InMax bytes", code, low[:65534])
	}
}

func TestCodesAreReadByAnotherReader(t *testing.T) {
	text := noiseText(80, 70000)
	for _, code := range [][]byte{impl.EncodeStored(text, 65535), impl.EncodeStored(text, 100), impl.EncodeFixed(text)} {
		var b bytes.Buffer
		_, err := b.ReadFrom(flate.NewReader(bytes.NewReader(code)))
		if err != nil || !bytes.Equal(b.Bytes(), text) {
			t.Errorf("%v, %d bytes", err, b.Len())
		}
	}
}

func TestEncodersKeepTheirMemoryApart(t *testing.T) {
	for _, n := range []int{0, 1, 5, 100, 1000} {
		g := guard(noiseText(81, n))
		for _, per := range []int64{0, 1, 5, 100, 65535} {
			checkApart(t, "EncodeStored", impl.EncodeStored(g.arg(), per), g.whole)
		}
		checkApart(t, "EncodeFixed", impl.EncodeFixed(g.arg()), g.whole)
		g.check(t, "encoders")
	}
}
