package tests

import (
	"bytes"
	"slices"
	"sync"

	"loop.example/s02972/impl"
)

// wholeRes is what a format tells of bytes as a whole; end is where the stream ends in them, for raw and zlib at ClassEnd.
type wholeRes struct {
	class int64
	out   []byte
	end   int64
}

func plainWhole(format int64, dict, b []byte) wholeRes {
	switch format {
	case impl.FormatRaw:
		res, _ := plainInflate(b, 32768, dict)
		return wholeRes{res.Class, res.Out, (res.Bits + 7) / 8}
	case impl.FormatZlib:
		res, _ := plainZlib(b, dict)
		return wholeRes{res.Class, res.Out, res.Used}
	}
	res := plainGzip(b)
	return wholeRes{res.Class, res.Out, res.Used}
}

// ownWhole asks the program's own layers, which are quicker and are held against the plain reading elsewhere.
func ownWhole(format int64, dict, b []byte) wholeRes {
	switch format {
	case impl.FormatRaw:
		res := impl.Inflate(b, 32768, dict)
		return wholeRes{res.Class, res.Out, (res.Bits + 7) / 8}
	case impl.FormatZlib:
		res := impl.Zlib(b, dict)
		return wholeRes{res.Class, res.Out, res.Used}
	}
	res := impl.Gzip(b)
	return wholeRes{res.Class, res.Out, res.Used}
}

// streamText is the bytes of all chunks of a script. What its format tells of its beginnings is kept, since many scripts ask for the same ones.
type streamText struct {
	what   string
	format int64
	dict   []byte
	b      []byte
	whole  func(format int64, dict, b []byte) wholeRes
	told   map[int]wholeRes
}

func newStreamText(what string, format int64, dict, b []byte) *streamText {
	return &streamText{what, format, dict, b, plainWhole, map[int]wholeRes{}}
}

// upTo tells of the first n bytes.
func (x *streamText) upTo(n int) wholeRes {
	res, ok := x.told[n]
	if !ok {
		res = x.whole(x.format, x.dict, x.b[:n])
		x.told[n] = res
	}
	return res
}

func (x *streamText) all() wholeRes {
	return x.upTo(len(x.b))
}

// cut makes chunks of these lengths; together they must be all of the text.
func (x *streamText) cut(lens []int) []impl.Chunk {
	var chunks []impl.Chunk
	at := 0
	for _, n := range lens {
		chunks = append(chunks, impl.Chunk{Data: bytes.Clone(x.b[at : at+n])})
		at += n
	}
	if at != len(x.b) {
		panic("chunks that are not the text")
	}
	return chunks
}

// plainPulls reads chapter 7 word by word; at is the number of bytes of the chunks pulled.
type plainPulls struct {
	text      *streamText
	lens      []int
	pulled    int
	at        int
	delivered int
}

func (p *plainPulls) final(class int64) bool {
	all := p.pulled == len(p.lens)
	switch class {
	case impl.ClassBad, impl.ClassSum, impl.ClassDict, impl.ClassLarge, impl.ClassLong:
		return true
	case impl.ClassEnd:
		if p.text.format == impl.FormatGzip {
			return all
		}
		return true
	case impl.ClassShort:
		return all
	}
	panic("a class that is none")
}

func (p *plainPulls) read(n int64) impl.ReadRes {
	if n <= 0 {
		return impl.ReadRes{}
	}
	for {
		d := p.text.upTo(p.at)
		if len(d.out) > p.delivered {
			data := d.out[p.delivered:]
			if int64(len(data)) > n {
				data = data[:n]
			}
			p.delivered += len(data)
			return impl.ReadRes{Data: data}
		}
		if p.final(d.class) {
			return impl.ReadRes{Err: d.class}
		}
		length := p.lens[p.pulled]
		p.pulled++
		p.at += length
		if length == 0 {
			return impl.ReadRes{}
		}
	}
}

func (p *plainPulls) used() int64 {
	if d := p.text.upTo(p.at); d.class == impl.ClassEnd && p.text.format != impl.FormatGzip {
		return d.end
	}
	return int64(p.at)
}

func plainStream(x *streamText, lens []int, sizes []int64) impl.StreamRes {
	p := &plainPulls{text: x, lens: lens}
	var res impl.StreamRes
	for _, n := range sizes {
		res.Reads = append(res.Reads, p.read(n))
	}
	res.Used = p.used()
	return res
}

// byteScript lays the parts of a script one behind the other.
func byteScript(format byte, dict []byte, lens, sizes, b []byte) []byte {
	return slices.Concat([]byte{format, byte(len(dict))}, dict, []byte{byte(len(lens))}, lens, []byte{byte(len(sizes))}, sizes, b)
}

// plainScript asks Stream for what a script says.
func plainScript(script []byte) []byte {
	if len(script) > 65536 {
		return nil
	}
	at := 0
	next := func() byte {
		at++
		if at > len(script) {
			return 0
		}
		return script[at-1]
	}
	many := func(n byte) []byte {
		var list []byte
		for range n {
			list = append(list, next())
		}
		return list
	}
	format := int64(next() % 3)
	dict := many(next())
	lens := many(next())
	var sizes []int64
	for _, n := range many(next()) {
		sizes = append(sizes, int64(n))
	}
	var chunks []impl.Chunk
	for _, n := range lens {
		chunks = append(chunks, impl.Chunk{Data: many(n)})
	}
	res := impl.Stream(format, dict, chunks, sizes)
	var answer []byte
	for _, r := range res.Reads {
		answer = append(answer, byte(r.Err), byte(len(r.Data)))
		answer = append(answer, r.Data...)
	}
	used := uint32(res.Used)
	return append(answer, byte(used), byte(used>>8), byte(used>>16), byte(used>>24))
}

// longRun has told n bytes, all the same, in an open block whose codes are so short that few bytes tell OutMax.
func longRun(last, n int64) (*bitText, bitCodes) {
	w := &bitText{}
	c := dynamicBlock(w, last, lensAt(286, 97, 2, 256, 2, 285, 1), lensAt(1, 0, 1))
	w.lit(c, 97)
	for n--; n >= 258; n -= 258 {
		w.copied(c, 258, 1)
	}
	return w.lit(c, slices.Repeat([]int64{97}, int(n))...), c
}

// closedRun is the stream of longRun with its end.
func closedRun(n int64) []byte {
	w, c := longRun(1, n)
	return w.lit(c, 256).b
}

// streamMost is how long a text may be so that each byte can be a chunk, and the chunks are still fewer than the reads.
const streamMost = 240

// shortStreams are raw streams of each class that is theirs, without a dictionary.
func shortStreams() []infRow {
	byteMore, c := longRun(1, 100000)
	byteMore.lit(c, 97, 256)
	copyMore, c := longRun(1, 99847)
	copyMore.copied(c, 258, 1).lit(c, 256)
	rows := slices.Concat(storedRows(), fixedRows(), dynamicRows(), lastByteRows())
	rows = slices.DeleteFunc(rows, func(r infRow) bool { return len(r.b) > 100 })
	return append(rows,
		infRow{what: "OutMax", b: closedRun(100000)},
		infRow{what: "a byte above OutMax", b: byteMore.b},
		infRow{what: "a copy above OutMax", b: copyMore.b},
	)
}

func rawTexts() []*streamText {
	var texts []*streamText
	add := func(what string, dict, b []byte) {
		texts = append(texts, newStreamText("raw, "+what, impl.FormatRaw, dict, b))
	}
	for _, r := range shortStreams() {
		add(r.what, nil, r.b)
		if res, _ := plainInflate(r.b, 32768, nil); res.Class == impl.ClassEnd {
			add(r.what+", bytes behind", nil, slices.Concat(r.b, []byte{0x55, 0, 0xff}))
		}
	}
	dict, told := []byte("a dictionary"), []byte("told")
	add("a copy out of the dictionary", dict, farCopy(told, 16))
	add("a copy from before the dictionary", dict, farCopy(told, 17))
	add("a copy out of no dictionary", nil, farCopy(told, 16))
	add("a copy out of the end of a long dictionary", noiseText(141, 40000), farCopy(told, 32768))
	return texts
}

func zlibTexts() []*streamText {
	var texts []*streamText
	add := func(what string, dict, b []byte) {
		texts = append(texts, newStreamText("zlib, "+what, impl.FormatZlib, dict, b))
	}
	dict, told := []byte("a dictionary"), []byte("told")
	for _, r := range shortStreams() {
		res, _ := plainInflate(r.b, 32768, nil)
		if res.Class != impl.ClassEnd {
			add(r.what, nil, append(zlibHead(7, nil), r.b...))
			continue
		}
		good := zlibOf(7, nil, r.b, res.Out)
		add(r.what, nil, good)
		add(r.what+", bytes behind", nil, slices.Concat(good, []byte{0xaa, 0xff, 0}))
		add(r.what+", another sum", nil, changed(good, len(good)-1-len(res.Out)%4, 99))
	}
	out := plainCopy(slices.Concat(dict, told), 16, 3)[len(dict):]
	asked := zlibOf(2, dict, farCopy(told, 16), out)
	add("a dictionary", dict, asked)
	add("another dictionary", told, asked)
	add("no dictionary", nil, asked)
	add("a copy from before the dictionary", dict, zlibOf(2, dict, farCopy(told, 17), told))
	add("a dictionary that is not asked for", dict, zlibOf(2, nil, plainFixed(told), told))
	add("a wrong head", nil, []byte{0x78, 2})
	add("another method", nil, []byte{0x79, 5, 1})
	add("a great window", nil, []byte{0x88, 0x1c})
	return texts
}

func gzipTexts() []*streamText {
	var texts []*streamText
	add := func(what string, parts ...[]byte) {
		texts = append(texts, newStreamText("gzip, "+what, impl.FormatGzip, nil, slices.Concat(parts...)))
	}
	a, _ := gzipA()
	for i, r := range shortStreams() {
		res, _ := plainInflate(r.b, 32768, nil)
		if res.Class != impl.ClassEnd {
			add(r.what, gzipHead(impl.Member{Mtime: int64(i)}), r.b)
			continue
		}
		good := gzipOf(impl.Member{Flags: 8, Name: []byte{byte(i + 1)}}, r.b, res.Out)
		add(r.what, good)
		add(r.what+", another sum or size", changed(good, len(good)-1-i%8, 99))
	}
	full, none := gzipOf(fullMember(3), plainFixed([]byte("bcd")), []byte("bcd")), closedMember(0)
	add("all fields", full)
	add("all fields, another sum of the head", changed(full, len(gzipHead(fullMember(3)))-1, 7))
	add("two members", a, full)
	add("members of nothing", none, none, a, none, none)
	add("another member begun", a, full[:20])
	add("a first byte behind a member", a, a[:1])
	add("a byte behind a member that begins none", a, []byte("?"))
	add("bytes behind members that begin none", a, full, []byte("\x1f\x8b?"))
	add("unknown flags", changed(a, 3, 32))
	whole := gzipOf(impl.Member{}, closedRun(99847), bytes.Repeat([]byte("a"), 99847))
	more, _ := longRun(1, 154)
	add("OutMax in two members", whole, gzipHead(impl.Member{}), closedRun(153))
	add("a byte above OutMax in two members", whole, gzipHead(impl.Member{}), more.b)
	return texts
}

// shortTexts are texts of each format and of each of its classes, of streamMost bytes at the most.
var shortTexts = sync.OnceValue(func() []*streamText {
	return slices.Concat(rawTexts(), zlibTexts(), gzipTexts())
})
