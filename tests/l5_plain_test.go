package tests

import (
	"strings"

	"loop.example/s02972/impl"
)

// plainFault is the class that decides.
type plainFault int64

// plainInflater reads chapter 5 word by word and bit by bit; at tells how far it has read, and out begins behind the dictionary. What was told before this stream counts for the limit alone.
type plainInflater struct {
	b      []byte
	at     int64
	size   int64
	dict   int
	told   []byte
	before []byte
}

func (r *plainInflater) out() []byte {
	return r.told[r.dict:]
}

func (r *plainInflater) bit() int64 {
	if r.at == 8*int64(len(r.b)) {
		panic(plainFault(impl.ClassShort))
	}
	x := int64(r.b[r.at/8]) >> (r.at % 8) & 1
	r.at++
	return x
}

func (r *plainInflater) num(n int64) int64 {
	val := int64(0)
	for i := range n {
		val |= r.bit() << i
	}
	return val
}

func failAs(class int64, wrong bool) {
	if wrong {
		panic(plainFault(class))
	}
}

func failIf(wrong bool) {
	failAs(impl.ClassBad, wrong)
}

func (r *plainInflater) align() {
	r.at = (r.at + 7) / 8 * 8
}

// plainCode knows each symbol's code and all beginnings of codes.
type plainCode struct {
	syms   map[string]int64
	begins map[string]bool
}

func newPlainCode(lens []int64) plainCode {
	c := plainCode{map[string]int64{}, map[string]bool{}}
	for s, code := range plainCodes(lens) {
		if code == "" {
			continue
		}
		c.syms[code] = int64(s)
		for n := range code {
			c.begins[code[:n]] = true
		}
	}
	return c
}

func (r *plainInflater) sym(c plainCode) int64 {
	read := ""
	for {
		if s, ok := c.syms[read]; ok {
			return s
		}
		failIf(!c.begins[read])
		read += string('0' + byte(r.bit()))
	}
}

func (r *plainInflater) lens() ([]int64, []int64) {
	lits := r.num(5) + 257
	failIf(lits > 286)
	dists := r.num(5) + 1
	failIf(dists > 30)
	given := r.num(4) + 4
	codeLens := make([]int64, 19)
	for _, s := range plainOrder()[:given] {
		codeLens[s] = r.num(3)
	}
	failIf(plainKind(codeLens) != impl.HuffComplete)
	code := newPlainCode(codeLens)
	var lens []int64
	for int64(len(lens)) < lits+dists {
		switch s := r.sym(code); s {
		case 16:
			failIf(len(lens) == 0)
			lens = append(lens, manyLens(int(3+r.num(2)), lens[len(lens)-1])...)
		case 17:
			lens = append(lens, manyLens(int(3+r.num(3)), 0)...)
		case 18:
			lens = append(lens, manyLens(int(11+r.num(7)), 0)...)
		default:
			lens = append(lens, s)
		}
		failIf(int64(len(lens)) > lits+dists)
	}
	failIf(lens[256] == 0)
	kind := plainKind(lens[:lits])
	failIf(kind != impl.HuffComplete && kind != impl.HuffSingle)
	kind = plainKind(lens[lits:])
	failIf(kind != impl.HuffComplete && kind != impl.HuffSingle && kind != impl.HuffNone)
	return lens[:lits], lens[lits:]
}

func plainOrder() []int64 {
	return []int64{16, 17, 18, 0, 8, 7, 9, 6, 10, 5, 11, 4, 12, 3, 13, 2, 14, 1, 15}
}

func (r *plainInflater) blocks() {
	for last := int64(0); last == 0; {
		last = r.num(1)
		switch r.num(2) {
		case 0:
			r.align()
			n := r.num(16)
			failIf(r.num(16) != 65535-n)
			for range n {
				r.tell(byte(r.num(8)))
			}
		case 1:
			r.symbols(fixedLens(), manyLens(32, 5))
		case 2:
			r.symbols(r.lens())
		case 3:
			failIf(true)
		}
	}
}

func plainLengths() ([]int64, []int64) {
	return []int64{3, 4, 5, 6, 7, 8, 9, 10, 11, 13, 15, 17, 19, 23, 27, 31, 35, 43, 51, 59, 67, 83, 99, 115, 131, 163, 195, 227, 258},
		[]int64{0, 0, 0, 0, 0, 0, 0, 0, 1, 1, 1, 1, 2, 2, 2, 2, 3, 3, 3, 3, 4, 4, 4, 4, 5, 5, 5, 5, 0}
}

func plainDists() ([]int64, []int64) {
	return []int64{1, 2, 3, 4, 5, 7, 9, 13, 17, 25, 33, 49, 65, 97, 129, 193, 257, 385, 513, 769, 1025, 1537, 2049, 3073, 4097, 6145, 8193, 12289, 16385, 24577},
		[]int64{0, 0, 0, 0, 1, 1, 2, 2, 3, 3, 4, 4, 5, 5, 6, 6, 7, 7, 8, 8, 9, 9, 10, 10, 11, 11, 12, 12, 13, 13}
}

func (r *plainInflater) symbols(lits, dists []int64) {
	litCode, distCode := newPlainCode(lits), newPlainCode(dists)
	lengthBase, lengthExtra := plainLengths()
	distBase, distExtra := plainDists()
	for {
		s := r.sym(litCode)
		if s < 256 {
			r.tell(byte(s))
			continue
		}
		if s == 256 {
			return
		}
		failIf(s > 285)
		n := lengthBase[s-257] + r.num(lengthExtra[s-257])
		d := r.sym(distCode)
		failIf(d > 29)
		dist := distBase[d] + r.num(distExtra[d])
		near := r.told[max(0, int64(len(r.told))-r.size):]
		failIf(dist > int64(len(near)))
		near = near[int64(len(near))-dist:]
		r.tell(plainCopy(near, dist, n)[dist:]...)
	}
}

func (r *plainInflater) tell(data ...byte) {
	failAs(impl.ClassLarge, len(r.before)+len(r.out())+len(data) > 100000)
	r.told = append(r.told, data...)
}

// class runs a reading to its end or to what decides.
func (r *plainInflater) class(reading func()) (class int64) {
	defer func() {
		if f := recover(); f != nil {
			class = int64(f.(plainFault))
		}
	}()
	reading()
	return impl.ClassEnd
}

// plainInflate also tells how many bits were read, whatever the class.
func plainInflate(b []byte, size int64, dict []byte) (impl.InfRes, int64) {
	if len(b) > 65536 {
		return impl.InfRes{Class: impl.ClassLong}, 0
	}
	if size < 1 || size > 32768 {
		return impl.InfRes{Class: impl.ClassBad}, 0
	}
	r := &plainInflater{b: b, size: size, dict: len(dict), told: append([]byte{}, dict...)}
	res := impl.InfRes{Class: r.class(r.blocks)}
	res.Out = r.out()
	if res.Class == impl.ClassEnd {
		res.Bits = r.at
	}
	return res, r.at
}

func plainReadLens(b []byte, at int64) (impl.LensRes, int64) {
	if len(b) > 65536 {
		return impl.LensRes{Class: impl.ClassLong}, 0
	}
	if at < 0 || at > 8*int64(len(b)) {
		return impl.LensRes{Class: impl.ClassBad}, 0
	}
	r := &plainInflater{b: b, at: at}
	var res impl.LensRes
	class := r.class(func() { res.Lits, res.Dists = r.lens() })
	if class == impl.ClassEnd {
		res.Bits = r.at - at
	}
	res.Class = class
	return res, r.at - at
}

// bitText writes bits in the order in which they are read.
type bitText struct {
	b []byte
	n int64
}

func (w *bitText) code(bits string) *bitText {
	for _, x := range bits {
		if w.n%8 == 0 {
			w.b = append(w.b, 0)
		}
		w.b[w.n/8] |= byte(x-'0') << (w.n % 8)
		w.n++
	}
	return w
}

func (w *bitText) num(val, n int64) *bitText {
	for i := range n {
		w.code(string('0' + byte(val>>i&1)))
	}
	return w
}

// fill goes on to the next byte's beginning with the same bit.
func (w *bitText) fill(bit string) *bitText {
	return w.code(strings.Repeat(bit, int((8-w.n%8)%8)))
}

func (w *bitText) head(last, kind int64) *bitText {
	return w.num(last, 1).num(kind, 2)
}

func (w *bitText) stored(last int64, fill string, data []byte) *bitText {
	n := int64(len(data))
	w.head(last, 0).fill(fill).num(n, 16).num(65535-n, 16)
	w.b = append(w.b, data...)
	w.n += 8 * n
	return w
}

// bitCodes are the codes of a block that is written.
type bitCodes struct {
	lits, dists []string
}

func fixedCodes() bitCodes {
	return bitCodes{plainCodes(fixedLens()), plainCodes(manyLens(32, 5))}
}

func (w *bitText) lit(c bitCodes, syms ...int64) *bitText {
	for _, s := range syms {
		w.code(c.lits[s])
	}
	return w
}

func (w *bitText) text(c bitCodes, data []byte) *bitText {
	for _, x := range data {
		w.code(c.lits[x])
	}
	return w
}

// rangeOf gives the last range that begins at val or before it, which is where 258 has a symbol of its own.
func rangeOf(bases, extras []int64, val int64) (int64, int64, int64) {
	s := len(bases) - 1
	for bases[s] > val {
		s--
	}
	return int64(s), val - bases[s], extras[s]
}

func (w *bitText) length(c bitCodes, n int64) *bitText {
	bases, extras := plainLengths()
	s, more, extra := rangeOf(bases, extras, n)
	return w.code(c.lits[257+s]).num(more, extra)
}

func (w *bitText) dist(c bitCodes, dist int64) *bitText {
	bases, extras := plainDists()
	s, more, extra := rangeOf(bases, extras, dist)
	return w.code(c.dists[s]).num(more, extra)
}

func (w *bitText) copied(c bitCodes, n, dist int64) *bitText {
	return w.length(c, n).dist(c, dist)
}

// lenSym is a symbol of the code of lengths with the number behind it.
type lenSym struct {
	sym, more int64
}

// lensHead is the head of a dynamic block, part by part, so that each can be made wrong.
type lensHead struct {
	lits, dists, given int64
	codeLens           []int64
	syms               []lenSym
}

// evenLens gives the symbols of a complete code nearly the same length each; one alone gets another beside it.
func evenLens(syms []lenSym) []int64 {
	used := map[int64]bool{}
	for _, s := range syms {
		used[s.sym] = true
	}
	for s := int64(0); len(used) < 2; s++ {
		used[s] = true
	}
	short := int64(0)
	for 2<<short <= len(used) {
		short++
	}
	lens, left := make([]int64, 19), 2<<short-len(used)
	for s := range int64(19) {
		if used[s] && left > 0 {
			lens[s] = short
			left--
		} else if used[s] {
			lens[s] = short + 1
		}
	}
	return lens
}

// packLens writes lengths with repeats of noise's choice, over the border between literals and distances too.
func packLens(g *noise, lens []int64) []lenSym {
	var syms []lenSym
	for i := 0; i < len(lens); {
		run := 1
		for i+run < len(lens) && lens[i+run] == lens[i] {
			run++
		}
		n := 1 + int(g.below(int64(run)))
		switch {
		case lens[i] == 0 && n >= 11:
			n = min(n, 138)
			syms = append(syms, lenSym{18, int64(n - 11)})
		case lens[i] == 0 && n >= 3:
			syms = append(syms, lenSym{17, int64(n - 3)})
		case i > 0 && lens[i] == lens[i-1] && n >= 3:
			n = min(n, 6)
			syms = append(syms, lenSym{16, int64(n - 3)})
		default:
			n = 1
			syms = append(syms, lenSym{lens[i], 0})
		}
		i += n
	}
	return syms
}

// headOf is a right head for these lengths; as few code lengths are given as will do.
func headOf(g *noise, lits, dists []int64) lensHead {
	syms := packLens(g, append(append([]int64{}, lits...), dists...))
	h := lensHead{lits: int64(len(lits)), dists: int64(len(dists)), given: 19, codeLens: evenLens(syms), syms: syms}
	for h.given > 4 && h.codeLens[plainOrder()[h.given-1]] == 0 {
		h.given--
	}
	return h
}

// lens writes a head as it is, right or wrong.
func (w *bitText) lens(h lensHead) *bitText {
	w.num(h.lits-257, 5).num(h.dists-1, 5).num(h.given-4, 4)
	for _, s := range plainOrder()[:h.given] {
		w.num(h.codeLens[s], 3)
	}
	return w.lenSyms(h.codeLens, h.syms...)
}

func (w *bitText) lenSyms(codeLens []int64, syms ...lenSym) *bitText {
	codes := plainCodes(codeLens)
	extra := map[int64]int64{16: 2, 17: 3, 18: 7}
	for _, s := range syms {
		w.code(codes[s.sym]).num(s.more, extra[s.sym])
	}
	return w
}
