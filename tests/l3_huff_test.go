package tests

import (
	"math"
	"slices"
	"strings"
	"testing"

	"loop.example/s02972/impl"
)

// plainCodes reads chapter 3 word by word: each symbol's code as its bits in the order in which they are read, "" without a code.
func plainCodes(lens []int64) []string {
	var order []int
	for s, l := range lens {
		if l > 0 {
			order = append(order, s)
		}
	}
	slices.SortStableFunc(order, func(a, b int) int { return int(lens[a] - lens[b]) })
	codes := make([]string, len(lens))
	for i, s := range order {
		if i == 0 {
			codes[s] = strings.Repeat("0", int(lens[s]))
			continue
		}
		before := plusOne(codes[order[i-1]])
		codes[s] = before + strings.Repeat("0", int(lens[s])-len(before))
	}
	return codes
}

func plusOne(code string) string {
	last := strings.LastIndexByte(code, '0')
	return code[:last] + "1" + strings.Repeat("0", len(code)-last-1)
}

func plainKind(lens []int64) int64 {
	if len(lens) > 320 {
		return impl.HuffBad
	}
	k, coded, ones := 0, 0, 0
	for _, l := range lens {
		if l < 0 || l > 15 {
			return impl.HuffBad
		}
		if l > 0 {
			k += 1 << (15 - l)
			coded++
		}
		if l == 1 {
			ones++
		}
	}
	switch {
	case coded == 0:
		return impl.HuffNone
	case k > 32768:
		return impl.HuffOver
	case k == 32768:
		return impl.HuffComplete
	case coded == 1 && ones == 1:
		return impl.HuffSingle
	}
	return impl.HuffIncomplete
}

// plainNext goes on bit by bit, as chapter 3 does.
func plainNext(codes []string, bits uint64, n int64) impl.NextRes {
	read := ""
	for l := int64(0); ; l++ {
		begins := false
		for s, code := range codes {
			if code != "" && code == read {
				return impl.NextRes{Kind: impl.NextSym, Sym: int64(s), Len: l}
			}
			begins = begins || code != "" && strings.HasPrefix(code, read)
		}
		if !begins {
			return impl.NextRes{}
		}
		if l == n {
			return impl.NextRes{Kind: impl.NextShort}
		}
		read += string('0' + byte(bits>>l&1))
	}
}

// codeBits turns a code round: the first bit that is read is the lowest.
func codeBits(code string) uint64 {
	val := uint64(0)
	for i, x := range code {
		val |= uint64(x-'0') << i
	}
	return val
}

func hasCodes(kind int64) bool {
	return kind != impl.HuffBad && kind != impl.HuffOver
}

// splitLens splits codes into two longer ones until there are that many: always a complete code.
func splitLens(g *noise, symbols int, longest int64) []int64 {
	lens := []int64{1, 1}
	for len(lens) < symbols {
		i := g.below(int64(len(lens)))
		if lens[i] < longest {
			lens[i]++
			lens = append(lens, lens[i])
		}
	}
	for i := range lens {
		j := g.below(int64(i + 1))
		lens[i], lens[j] = lens[j], lens[i]
	}
	return lens
}

// withGaps puts symbols without a code between the others.
func withGaps(g *noise, lens []int64, symbols int) []int64 {
	for len(lens) < symbols {
		lens = slices.Insert(lens, int(g.below(int64(len(lens)+1))), 0)
	}
	return lens
}

// stairs are the lengths 1, 2, 3 .. up to the longest, and the longest once more.
func stairs(longest int64) []int64 {
	var lens []int64
	for l := int64(1); l <= longest; l++ {
		lens = append(lens, l)
	}
	return append(lens, longest)
}

func manyLens(n int, l int64) []int64 {
	return slices.Repeat([]int64{l}, n)
}

func fixedLens() []int64 {
	return slices.Concat(manyLens(144, 8), manyLens(112, 9), manyLens(24, 7), manyLens(8, 8))
}

// goodLens are lens of all kinds that have codes.
func goodLens() map[string][]int64 {
	g := &noise{41}
	down := stairs(15)
	slices.Reverse(down)
	return map[string][]int64{
		"no symbol":                       nil,
		"no symbol, not nil":              {},
		"no code":                         {0, 0, 0},
		"no code, SymMax symbols":         manyLens(320, 0),
		"one alone":                       {1},
		"one alone, not the first":        {0, 0, 1, 0},
		"one alone, the last of SymMax":   append(manyLens(319, 0), 1),
		"one of length 2":                 {2},
		"one of length 9":                 {0, 9},
		"one of length 10":                {10},
		"one of length 15":                {0, 0, 15},
		"two":                             {1, 1},
		"two with gaps":                   {0, 1, 0, 0, 1},
		"1 and 2":                         {1, 2},
		"the example":                     {3, 1, 3, 2},
		"the example, one less":           {3, 1, 0, 2},
		"2 and 2":                         {2, 2},
		"1 and 15":                        {1, 15},
		"15 and 1":                        {15, 1},
		"15 twice":                        {15, 15},
		"1 to 15":                         stairs(15),
		"15 to 1":                         down,
		"1 to 15, one less":               stairs(15)[:15],
		"1 to 9":                          stairs(9),
		"1 to 10":                         stairs(10),
		"9 and 10":                        append(manyLens(100, 9), manyLens(20, 10)...),
		"fixed literals":                  fixedLens(),
		"fixed literals, two less":        fixedLens()[:286],
		"fixed distances":                 manyLens(32, 5),
		"fixed distances, two less":       manyLens(30, 5),
		"SymMax of length 9":              manyLens(320, 9),
		"SymMax of length 15":             manyLens(320, 15),
		"SymMax of 1 and 15":              append([]int64{1}, manyLens(319, 15)...),
		"SymMax, complete":                splitLens(g, 320, 15),
		"SymMax, complete and short":      splitLens(g, 320, 9),
		"SymMax, complete, one less":      append(splitLens(g, 320, 15)[:319], 0),
		"SymMax, complete with gaps":      withGaps(g, splitLens(g, 160, 15), 320),
		"complete, many of length LenMax": append(stairs(8)[:8], manyLens(128, 15)...),
	}
}

// overLens are lens with more codes than there is room for.
func overLens() map[string][]int64 {
	return map[string][]int64{
		"three of length 1":      {1, 1, 1},
		"one of length 15 above": {1, 1, 15},
		"one of length 1 above":  {15, 1, 1},
		"stairs and one above":   append(stairs(15), 15),
		"SymMax of length 1":     manyLens(320, 1),
		"SymMax of length 8":     manyLens(320, 8),
		"with gaps":              {0, 2, 2, 0, 1, 0, 2},
	}
}

// badLens are lens that are not valid.
func badLens() map[string][]int64 {
	return map[string][]int64{
		"-1":                              {-1},
		"-1 among others":                 {1, -1, 1},
		"-1 at the end":                   {1, 1, -1},
		"far below 0":                     {2, math.MinInt64},
		"16":                              {16},
		"16 among others":                 {1, 16, 1},
		"16 behind too many codes":        {1, 1, 1, 16},
		"64":                              {64},
		"far above LenMax":                {math.MaxInt64, 1},
		"1 as a byte, but not as a whole": {257, 1},
		"1 in 32 bits":                    {1<<32 + 1, 1},
		"SymMax + 1 without a code":       manyLens(321, 0),
		"SymMax + 1, one alone":           append(manyLens(320, 0), 1),
		"SymMax + 1 of length 15":         manyLens(321, 15),
		"SymMax + 1 of length 1":          manyLens(321, 1),
		"many more":                       manyLens(70000, 0),
	}
}

func TestKindsByName(t *testing.T) {
	rows := map[string]int64{
		"no symbol": impl.HuffNone, "no symbol, not nil": impl.HuffNone, "no code": impl.HuffNone, "no code, SymMax symbols": impl.HuffNone,
		"one alone": impl.HuffSingle, "one alone, not the first": impl.HuffSingle, "one alone, the last of SymMax": impl.HuffSingle,
		"one of length 2": impl.HuffIncomplete, "one of length 9": impl.HuffIncomplete, "one of length 15": impl.HuffIncomplete,
		"two": impl.HuffComplete, "1 and 2": impl.HuffIncomplete, "the example": impl.HuffComplete, "1 and 15": impl.HuffIncomplete,
		"1 to 15": impl.HuffComplete, "15 to 1": impl.HuffComplete, "1 to 15, one less": impl.HuffIncomplete,
		"fixed literals": impl.HuffComplete, "fixed literals, two less": impl.HuffIncomplete, "fixed distances": impl.HuffComplete,
		"SymMax of length 15": impl.HuffIncomplete, "SymMax, complete": impl.HuffComplete, "SymMax, complete, one less": impl.HuffIncomplete,
		"SymMax, complete with gaps": impl.HuffComplete, "complete, many of length LenMax": impl.HuffComplete,
	}
	good := goodLens()
	for what, want := range rows {
		lens, ok := good[what]
		if got := impl.HuffKind(lens); !ok || got != want {
			t.Errorf("%s: kind %d, not %d", what, got, want)
		}
	}
	for what, lens := range overLens() {
		if got := impl.HuffKind(lens); got != impl.HuffOver {
			t.Errorf("%s: kind %d", what, got)
		}
	}
	for what, lens := range badLens() {
		if got := impl.HuffKind(lens); got != impl.HuffBad {
			t.Errorf("%s: kind %d", what, got)
		}
	}
}

func TestLensWithoutCodes(t *testing.T) {
	for _, rows := range []map[string][]int64{badLens(), overLens()} {
		for what, lens := range rows {
			if got := impl.HuffCodes(lens); len(got) != 0 {
				t.Errorf("%s: %d codes", what, len(got))
			}
			for _, n := range []int64{-1, 0, 1, 2, 15, 16, 64, 65} {
				for _, bits := range []uint64{0, 1, 5, math.MaxUint64} {
					if got := impl.HuffNext(lens, bits, n); got != (impl.NextRes{}) {
						t.Errorf("%s: next of %d bits %#x: %+v", what, n, bits, got)
					}
				}
			}
		}
	}
}

func TestCodesByName(t *testing.T) {
	rows := []struct {
		lens  []int64
		codes string
	}{
		{[]int64{3, 1, 3, 2}, "110 0 111 10"},
		{[]int64{2, 3, 3, 3, 3, 2}, "00 100 101 110 111 01"},
		{[]int64{1}, "0"},
		{[]int64{0, 0, 1}, "- - 0"},
		{[]int64{0, 4, 0}, "- 0000 -"},
		{[]int64{1, 1}, "0 1"},
		{[]int64{0, 0}, "- -"},
		{[]int64{1, 3}, "0 100"},
		{[]int64{3, 1}, "100 0"},
		{[]int64{15, 1, 15}, "100000000000000 0 100000000000001"},
		{[]int64{5, 2, 0, 5, 3}, "01100 00 - 01101 010"},
	}
	for i, r := range rows {
		var want []impl.HuffCode
		for _, code := range strings.Fields(r.codes) {
			code = strings.Trim(code, "-")
			want = append(want, impl.HuffCode{Len: int64(len(code)), Bits: codeBits(code)})
		}
		if got := impl.HuffCodes(r.lens); !slices.Equal(got, want) {
			t.Errorf("row %d: %v, not %v", i, got, want)
		}
	}
	if got := impl.HuffCodes([]int64{15, 1, 15}); got[0].Bits != 1 || got[1].Bits != 0 || got[2].Bits != 1<<14+1 {
		t.Errorf("codes are not turned round: %v", got)
	}
}

func TestCodesOfTheFixedBlock(t *testing.T) {
	codes := impl.HuffCodes(fixedLens())
	if len(codes) != 288 {
		t.Fatalf("%d codes", len(codes))
	}
	rows := map[int]string{0: "00110000", 143: "10111111", 144: "110010000", 255: "111111111", 256: "0000000", 279: "0010111", 280: "11000000", 287: "11000111"}
	for s, code := range rows {
		if codes[s] != (impl.HuffCode{Len: int64(len(code)), Bits: codeBits(code)}) {
			t.Errorf("symbol %d: %v", s, codes[s])
		}
	}
}

// checkCodes holds the codes against the plain reading, and each against all others.
func checkCodes(t *testing.T, what string, lens []int64) {
	t.Helper()
	plain := plainCodes(lens)
	codes := impl.HuffCodes(lens)
	if len(codes) != len(lens) {
		t.Fatalf("%s: %d codes for %d symbols", what, len(codes), len(lens))
	}
	for s, code := range plain {
		if codes[s] != (impl.HuffCode{Len: int64(len(code)), Bits: codeBits(code)}) {
			t.Errorf("%s: symbol %d has the code %v, not %q", what, s, codes[s], code)
		}
	}
	for s, a := range codes {
		for u, b := range codes {
			if s != u && a.Len > 0 && a.Len <= b.Len && b.Bits%(1<<a.Len) == a.Bits {
				t.Errorf("%s: the code of %d is the beginning of that of %d", what, s, u)
			}
		}
	}
}

func checkNext(t *testing.T, what string, lens []int64, plain []string, bits uint64, n int64) {
	t.Helper()
	want := plainNext(plain, bits, n)
	got := impl.HuffNext(lens, bits, n)
	if got != want {
		t.Errorf("%s: next of %d bits %#x: %+v, not %+v", what, n, bits, got, want)
	}
	if got.Kind == impl.NextBad && impl.HuffKind(lens) == impl.HuffComplete {
		t.Errorf("%s: a complete code, but %d bits %#x are bad", what, n, bits)
	}
}

func TestCodesOfManyLens(t *testing.T) {
	for what, lens := range goodLens() {
		if got, want := impl.HuffKind(lens), plainKind(lens); got != want || !hasCodes(got) {
			t.Fatalf("%s: kind %d, not %d", what, got, want)
		}
		checkCodes(t, what, lens)
	}
}

func TestNextOfManyLens(t *testing.T) {
	for what, lens := range goodLens() {
		plain := plainCodes(lens)
		g := &noise{42}
		for _, n := range []int64{0, 1, 2, 7, 8, 9, 10, 14, 15, 16, 31, 32, 33, 63, 64} {
			for _, bits := range []uint64{0, 1, 2, 1 << 8, 1 << 9, 1<<14 - 1, 1 << 14, 1<<15 - 1, 1 << 15, math.MaxUint64, math.MaxUint64 - 1, 1 << 63, g.next(), g.next() << 33} {
				checkNext(t, what, lens, plain, bits, n)
			}
		}
		for _, n := range []int64{-1, -64, 65, 66, 128, math.MinInt64, math.MaxInt64, 1 << 32} {
			for _, bits := range []uint64{0, 1, g.next(), math.MaxUint64} {
				if got := impl.HuffNext(lens, bits, n); got != (impl.NextRes{}) {
					t.Errorf("%s: next of %d bits: %+v", what, n, got)
				}
			}
		}
	}
}

func TestEachCodeGivesItsSymbolWhateverFollows(t *testing.T) {
	for what, lens := range goodLens() {
		g := &noise{43}
		for s, code := range impl.HuffCodes(lens) {
			if code.Len == 0 {
				continue
			}
			for _, behind := range []uint64{0, math.MaxUint64, g.next()<<33 + g.next()} {
				checkOwnSymbol(t, what, lens, int64(s), code, behind)
			}
		}
	}
}

// checkOwnSymbol asks with the code's bits, then with more behind them, and then with too few of them.
func checkOwnSymbol(t *testing.T, what string, lens []int64, sym int64, code impl.HuffCode, behind uint64) {
	t.Helper()
	want := impl.NextRes{Kind: impl.NextSym, Sym: sym, Len: code.Len}
	for _, n := range []int64{code.Len, code.Len + 1, 16, 40, 64} {
		if got := impl.HuffNext(lens, code.Bits|behind<<code.Len, n); got != want {
			t.Errorf("%s: %d bits from the code of %d: %+v", what, n, sym, got)
		}
	}
	for _, n := range []int64{0, 1, code.Len / 2, code.Len - 1} {
		if n >= code.Len {
			continue
		}
		above := code.Bits%(1<<n) | behind<<n
		if got := impl.HuffNext(lens, above, n); got != (impl.NextRes{Kind: impl.NextShort}) {
			t.Errorf("%s: %d of the %d bits of the code of %d, %#x: %+v", what, n, code.Len, sym, above, got)
		}
	}
}

func TestNextOfNoCodeAndOfOneAlone(t *testing.T) {
	bad, short := impl.NextRes{}, impl.NextRes{Kind: impl.NextShort}
	first, third := impl.NextRes{Kind: impl.NextSym, Sym: 0, Len: 1}, impl.NextRes{Kind: impl.NextSym, Sym: 2, Len: 1}
	rows := []struct {
		lens []int64
		bits uint64
		n    int64
		want impl.NextRes
	}{
		{nil, 0, 0, bad}, {nil, 0, 1, bad}, {nil, 5, 64, bad}, {[]int64{0, 0}, 0, 0, bad}, {[]int64{0, 0}, 0, 64, bad}, {manyLens(320, 0), 0, 0, bad},
		{[]int64{1}, 0, 0, short}, {[]int64{1}, 1, 0, short}, {[]int64{1}, 0, 1, first}, {[]int64{1}, 1, 1, bad}, {[]int64{1}, 1, 64, bad}, {[]int64{1}, math.MaxUint64 - 1, 64, first}, {[]int64{0, 0, 1}, 6, 3, third}, {[]int64{0, 0, 1}, 7, 3, bad},
		{[]int64{2}, 0, 1, short}, {[]int64{2}, 1, 1, bad}, {[]int64{2}, 2, 1, short}, {[]int64{2}, 2, 2, bad}, {[]int64{2}, 4, 2, impl.NextRes{Kind: impl.NextSym, Len: 2}},
		{[]int64{15}, 0, 14, short}, {[]int64{15}, 1 << 14, 14, short}, {[]int64{15}, 1 << 14, 15, bad}, {[]int64{15}, 1 << 15, 64, impl.NextRes{Kind: impl.NextSym, Len: 15}}, {[]int64{15}, 1 << 13, 14, bad},
		{[]int64{1, 15}, 1, 1, short}, {[]int64{1, 15}, 3, 2, bad}, {[]int64{1, 15}, 1, 14, short}, {[]int64{1, 15}, 1, 15, impl.NextRes{Kind: impl.NextSym, Sym: 1, Len: 15}}, {[]int64{1, 15}, 1<<14 + 1, 15, bad}, {[]int64{1, 15}, math.MaxUint64 - 1, 15, first},
	}
	for i, r := range rows {
		if got := impl.HuffNext(r.lens, r.bits, r.n); got != r.want {
			t.Errorf("row %d: %+v, not %+v", i, got, r.want)
		}
	}
}

// TestEveryShortLens goes through all lens of at most four symbols with a few lengths, at all bits.
func TestEveryShortLens(t *testing.T) {
	lengths := []int64{0, 1, 2, 3, 4, 15}
	seen := [6]int{}
	for number := range 7 * 7 * 7 * 7 {
		var lens []int64
		for rest := number; rest > 0; rest /= 7 {
			if rest%7 > 0 {
				lens = append(lens, lengths[rest%7-1])
			}
		}
		kind := impl.HuffKind(lens)
		if kind != plainKind(lens) {
			t.Fatalf("%v: kind %d, not %d", lens, kind, plainKind(lens))
		}
		seen[kind]++
		if !hasCodes(kind) {
			continue
		}
		checkCodes(t, "short lens", lens)
		plain := plainCodes(lens)
		for n := int64(0); n <= 5; n++ {
			for bits := range uint64(16) {
				checkNext(t, "short lens", lens, plain, bits|bits<<n, n)
			}
		}
	}
	for kind := impl.HuffComplete; kind <= impl.HuffNone; kind++ {
		if seen[kind] == 0 {
			t.Errorf("no lens of kind %d", kind)
		}
	}
}

// TestEveryBitsOfALongCode asks with every number of LenMax bits, so that every place of the table is asked for.
func TestEveryBitsOfALongCode(t *testing.T) {
	for _, lens := range [][]int64{stairs(15), splitLens(&noise{44}, 60, 15), append(manyLens(3, 2), manyLens(70, 15)...)} {
		want := map[uint64]impl.NextRes{}
		for s, code := range plainCodes(lens) {
			for behind := range uint64(1) << (15 - len(code)) {
				want[codeBits(code)|behind<<len(code)] = impl.NextRes{Kind: impl.NextSym, Sym: int64(s), Len: int64(len(code))}
			}
		}
		for bits := range uint64(1 << 15) {
			if got := impl.HuffNext(lens, bits, 15); got != want[bits] {
				t.Fatalf("bits %#x: %+v, not %+v", bits, got, want[bits])
			}
		}
	}
}

func TestHuffOfNoise(t *testing.T) {
	g := &noise{45}
	for range 150 {
		lens := splitLens(g, 2+int(g.below(60)), 8+g.below(8))
		switch g.below(3) {
		case 0:
			lens = lens[:g.below(int64(len(lens)))]
		case 1:
			lens = withGaps(g, lens, len(lens)+int(g.below(30)))
		}
		if impl.HuffKind(lens) != plainKind(lens) {
			t.Fatalf("%v: kind %d", lens, impl.HuffKind(lens))
		}
		checkCodes(t, "noise", lens)
		plain := plainCodes(lens)
		for range 60 {
			checkNext(t, "noise", lens, plain, g.next()<<33|g.next(), g.below(65))
			checkNext(t, "noise", lens, plain, g.next(), g.below(17))
		}
	}
}

func TestHuffLeavesItsLensAlone(t *testing.T) {
	for what, lens := range goodLens() {
		whole := append(slices.Clone(lens), 3, 2, 1)
		before := slices.Clone(whole)
		arg := whole[:len(lens)]
		impl.HuffKind(arg)
		codes := impl.HuffCodes(arg)
		for bits := range uint64(8) {
			impl.HuffNext(arg, bits, 20)
		}
		if !slices.Equal(whole, before) {
			t.Errorf("%s: lens were written into", what)
		}
		kept := slices.Clone(codes)
		clear(codes[:cap(codes)])
		if !slices.Equal(impl.HuffCodes(arg), kept) {
			t.Errorf("%s: a second answer hangs on what became of the first", what)
		}
	}
}
