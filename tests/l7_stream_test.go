package tests

import (
	"bytes"
	"math"
	"slices"
	"strconv"
	"testing"

	"loop.example/s02972/impl"
)

func sameRead(a, b impl.ReadRes) bool {
	return a.Err == b.Err && bytes.Equal(a.Data, b.Data)
}

func sameStream(a, b impl.StreamRes) bool {
	return a.Used == b.Used && slices.EqualFunc(a.Reads, b.Reads, sameRead)
}

func zeroStream(r impl.StreamRes) bool {
	return len(r.Reads) == 0 && r.Used == 0
}

// checkStream holds a script against the plain reading, and its answer against the promises.
func checkStream(t *testing.T, x *streamText, lens []int, sizes []int64) impl.StreamRes {
	t.Helper()
	got, want := impl.Stream(x.format, x.dict, x.cut(lens), sizes), plainStream(x, lens, sizes)
	for i := range min(len(got.Reads), len(want.Reads)) {
		if g, w := got.Reads[i], want.Reads[i]; !sameRead(g, w) {
			t.Fatalf("%s: chunks %v, sizes %v: read %d is %d bytes with %d, not %d bytes with %d (or other bytes)", x.what, lens, sizes, i, len(g.Data), g.Err, len(w.Data), w.Err)
		}
	}
	if !sameStream(got, want) {
		t.Fatalf("%s: chunks %v, sizes %v: %d reads, %d used; not %d, %d", x.what, lens, sizes, len(got.Reads), got.Used, len(want.Reads), want.Used)
	}
	checkBeginning(t, x, sizes, got)
	checkQuiet(t, x, lens, sizes, got)
	return got
}

// checkBeginning is promise 11.
func checkBeginning(t *testing.T, x *streamText, sizes []int64, got impl.StreamRes) {
	t.Helper()
	whole := x.all()
	var data []byte
	ended := false
	for i, r := range got.Reads {
		data = append(data, r.Data...)
		if sizes[i] > 0 {
			ended = ended || r.Err != impl.ClassNone
		}
		if r.Err != impl.ClassNone && (r.Err != whole.class || !bytes.Equal(data, whole.out)) {
			t.Fatalf("%s: read %d ends with %d behind %d bytes, not with %d behind %d", x.what, i, r.Err, len(data), whole.class, len(whole.out))
		}
		if ended && sizes[i] > 0 && r.Err == impl.ClassNone {
			t.Fatalf("%s: read %d goes on behind the end", x.what, i)
		}
	}
	if !bytes.HasPrefix(whole.out, data) {
		t.Fatalf("%s: %d bytes that are not a beginning", x.what, len(data))
	}
}

// checkQuiet is promise 13: each empty chunk is pulled but once, and it alone makes a read quiet.
func checkQuiet(t *testing.T, x *streamText, lens []int, sizes []int64, got impl.StreamRes) {
	t.Helper()
	quiet, empty := 0, 0
	for _, n := range lens {
		if n == 0 {
			empty++
		}
	}
	for i, r := range got.Reads {
		if sizes[i] > 0 && len(r.Data) == 0 && r.Err == impl.ClassNone {
			quiet++
		}
	}
	if quiet > empty {
		t.Fatalf("%s: %d reads are quiet, but only %d chunks empty", x.what, quiet, empty)
	}
}

func manySizes(n int, size int64) []int64 {
	return slices.Repeat([]int64{size}, n)
}

// sizeLists are reads of one byte, of all that is there, and of sizes of all kinds in turn.
func sizeLists(n int) [][]int64 {
	odd := []int64{2, 0, 1, -1, 7, 300, 1, 1000, math.MinInt64, 3, 70000, math.MaxInt64}
	mixed := make([]int64, n)
	for i := range mixed {
		mixed[i] = odd[i%len(odd)]
	}
	return [][]int64{manySizes(n, 1), manySizes(n, math.MaxInt64), mixed}
}

func TestShortTextsAreOfEachClass(t *testing.T) {
	var classes [3][8]int
	for _, x := range shortTexts() {
		if len(x.b) > streamMost {
			t.Errorf("%s: %d bytes", x.what, len(x.b))
		}
		classes[x.format][x.all().class]++
	}
	for format, wanted := range [][]int{
		{impl.ClassEnd, impl.ClassShort, impl.ClassBad, impl.ClassLarge},
		{impl.ClassEnd, impl.ClassShort, impl.ClassBad, impl.ClassSum, impl.ClassDict, impl.ClassLarge},
		{impl.ClassEnd, impl.ClassShort, impl.ClassBad, impl.ClassSum, impl.ClassLarge},
	} {
		for _, class := range wanted {
			if classes[format][class] < 2 {
				t.Errorf("format %d: class %d only %d times", format, class, classes[format][class])
			}
		}
	}
}

func TestStreamInOneChunk(t *testing.T) {
	for _, x := range shortTexts() {
		for _, sizes := range sizeLists(12) {
			checkStream(t, x, []int{len(x.b)}, sizes)
		}
	}
}

func TestStreamCutAtEveryByte(t *testing.T) {
	for _, x := range shortTexts() {
		for n := range len(x.b) + 1 {
			for _, sizes := range sizeLists(8) {
				checkStream(t, x, []int{n, len(x.b) - n}, sizes)
			}
		}
	}
}

// TestStreamOfEveryBeginning has texts that end everywhere, in one chunk and in two.
func TestStreamOfEveryBeginning(t *testing.T) {
	for _, x := range shortTexts() {
		for n := range len(x.b) {
			part := &streamText{x.what + ", cut", x.format, x.dict, x.b[:n], plainWhole, x.told}
			checkStream(t, part, []int{n}, sizeLists(6)[1])
			checkStream(t, part, []int{n / 2, n - n/2}, sizeLists(14)[2])
		}
	}
}

func TestStreamInChunksOfOneByte(t *testing.T) {
	for _, x := range shortTexts() {
		for _, sizes := range sizeLists(255) {
			checkStream(t, x, slices.Repeat([]int{1}, len(x.b)), sizes)
		}
	}
}

// TestStreamUsedAfterEachRead ends the script behind each of its reads.
func TestStreamUsedAfterEachRead(t *testing.T) {
	for _, x := range shortTexts() {
		third := len(x.b) / 3
		for _, lens := range [][]int{{len(x.b)}, {third, 0, third, len(x.b) - 2*third}, slices.Repeat([]int{1}, len(x.b))} {
			for _, sizes := range sizeLists(12) {
				for n := range sizes {
					checkStream(t, x, lens, sizes[:n])
				}
			}
		}
	}
}

// emptyAmong puts so many empty chunks at the beginning, at the end and between.
func emptyAmong(lens []int, before, between, behind int) []int {
	out := make([]int, before)
	for i, n := range lens {
		if i > 0 {
			out = append(out, make([]int, between)...)
		}
		out = append(out, n)
	}
	return append(out, make([]int, behind)...)
}

func TestStreamWithEmptyChunks(t *testing.T) {
	for _, x := range shortTexts() {
		half := len(x.b) / 2
		for _, lens := range [][]int{{}, {len(x.b)}, {half, len(x.b) - half}, {1, half, len(x.b) - half - 1}} {
			if len(x.b) < len(lens) || len(lens) == 0 && len(x.b) > 0 {
				continue
			}
			for _, sizes := range sizeLists(30) {
				checkStream(t, x, emptyAmong(lens, 1, 0, 0), sizes)
				checkStream(t, x, emptyAmong(lens, 0, 1, 0), sizes)
				checkStream(t, x, emptyAmong(lens, 0, 0, 1), sizes)
				checkStream(t, x, emptyAmong(lens, 3, 2, 4), sizes)
			}
		}
	}
}

// drained are all Data of a script that is read to its Err.
type drained struct {
	data []byte
	err  int64
	used int64
}

func drain(t *testing.T, x *streamText, lens []int, size int64) drained {
	t.Helper()
	res := impl.Stream(x.format, x.dict, x.cut(lens), manySizes(255, size))
	var d drained
	for _, r := range res.Reads {
		d.data = append(d.data, r.Data...)
		d.err = r.Err
	}
	if d.err == impl.ClassNone {
		t.Fatalf("%s: no Err after %d reads of %d", x.what, len(res.Reads), size)
	}
	d.used = res.Used
	return d
}

func checkDrained(t *testing.T, x *streamText, lens []int, size int64, want drained) {
	t.Helper()
	got := drain(t, x, lens, size)
	if got.err != want.err || !bytes.Equal(got.data, want.data) {
		t.Fatalf("%s: chunks %v, size %d: class %d behind %d bytes, not %d behind %d (or other bytes)", x.what, lens, size, got.err, len(got.data), want.err, len(want.data))
	}
	if got.err == impl.ClassEnd && got.used != want.used {
		t.Fatalf("%s: chunks %v: %d used, not %d", x.what, lens, got.used, want.used)
	}
}

// noiseLens cuts n bytes at places of noise's choice, into most chunks at the most, some of them empty.
func noiseLens(g *noise, n int, most int64) []int {
	places := []int{0, n}
	for range g.below(most) {
		places = append(places, int(g.below(int64(n)+1)))
	}
	slices.Sort(places)
	lens := make([]int, len(places)-1)
	for i := range lens {
		lens[i] = places[i+1] - places[i]
	}
	return lens
}

// TestChunksMakeNoDifference is promise 12. The sizes are such that 255 reads come to the Err.
func TestChunksMakeNoDifference(t *testing.T) {
	g := &noise{142}
	for _, x := range shortTexts() {
		want := drain(t, x, []int{len(x.b)}, math.MaxInt64)
		if want.err != x.all().class || !bytes.Equal(want.data, x.all().out) {
			t.Fatalf("%s: class %d behind %d bytes", x.what, want.err, len(want.data))
		}
		ones := slices.Repeat([]int{1}, len(x.b))
		checkDrained(t, x, ones, 1<<20, want)
		checkDrained(t, x, emptyAmong(ones, 2, 0, 3), 1<<20, want)
		least := 1 + int64(len(want.data))/200
		for n := range len(x.b) + 1 {
			checkDrained(t, x, []int{n, len(x.b) - n}, least+g.below(900), want)
			checkDrained(t, x, []int{0, n, 0, 0, len(x.b) - n, 0}, least, want)
		}
		for range 20 {
			checkDrained(t, x, noiseLens(g, len(x.b), 40), least+g.below(5), want)
		}
	}
}

// streamRow is a script with its answer told by hand: each read is its Data, or a class.
type streamRow struct {
	what   string
	format int64
	dict   string
	chunks []string
	sizes  []int64
	reads  []any
	used   int64
}

func checkStreamRow(t *testing.T, r streamRow) {
	t.Helper()
	want := impl.StreamRes{Used: r.used}
	for _, read := range r.reads {
		switch x := read.(type) {
		case string:
			want.Reads = append(want.Reads, impl.ReadRes{Data: []byte(x)})
		case int:
			want.Reads = append(want.Reads, impl.ReadRes{Err: int64(x)})
		}
	}
	var chunks []impl.Chunk
	var b []byte
	var lens []int
	for _, c := range r.chunks {
		chunks, b, lens = append(chunks, impl.Chunk{Data: []byte(c)}), append(b, c...), append(lens, len(c))
	}
	if got := impl.Stream(r.format, []byte(r.dict), chunks, r.sizes); !sameStream(got, want) {
		t.Errorf("%s: %+v, not %+v", r.what, got, want)
	}
	checkStream(t, newStreamText(r.what, r.format, []byte(r.dict), b), lens, r.sizes)
}

const helloStored = "\x01\x05\x00\xfa\xffhello"

func TestRawStreamsByName(t *testing.T) {
	h := helloStored
	end, short, bad := impl.ClassEnd, impl.ClassShort, impl.ClassBad
	nine := func(n int) []int64 { return manySizes(n, 9) }
	for _, r := range []streamRow{
		{"the document's example", 0, "", []string{h[:6], "", h[6:8], h[8:] + "more"}, []int64{9, 9, 0, 9, 9, 9}, []any{"h", "", "", "el", "lo", end}, 10},
		{"no chunk, no size", 0, "", nil, nil, nil, 0},
		{"no chunk", 0, "", nil, []int64{1, 0, 1}, []any{short, "", short}, 0},
		{"no size", 0, "", []string{h}, nil, nil, 0},
		{"sizes that read nothing", 0, "", []string{h}, []int64{0, -1, math.MinInt64}, []any{"", "", ""}, 0},
		{"an empty chunk alone", 0, "", []string{""}, nine(3), []any{"", short, short}, 0},
		{"empty chunks alone", 0, "", []string{"", "", ""}, nine(4), []any{"", "", "", short}, 0},
		{"a chunk that is not needed", 0, "", []string{h[:6], h[6:]}, []int64{1}, []any{"h"}, 6},
		{"a chunk that is needed", 0, "", []string{h[:6], h[6:]}, []int64{1, 1}, []any{"h", "e"}, 10},
		{"chunks that tell nothing", 0, "", []string{h[:1], h[1:3], h[3:5], h[5:6], h[6:]}, []int64{9}, []any{"h"}, 6},
		{"chunks that tell nothing, and an empty one", 0, "", []string{h[:1], h[1:3], "", h[3:5], h[5:6], h[6:]}, nine(2), []any{"", "h"}, 6},
		{"an empty chunk with nothing before", 0, "", []string{"", h}, nine(1), []any{""}, 0},
		{"an empty chunk that is not pulled", 0, "", []string{h[:7], "", h[7:]}, []int64{1, 1}, []any{"h", "e"}, 7},
		{"one less than what is there", 0, "", []string{h}, []int64{4, 4, 4}, []any{"hell", "o", end}, 10},
		{"as much as is there", 0, "", []string{h}, []int64{5, 5}, []any{"hello", end}, 10},
		{"as much as is there, the end not asked for", 0, "", []string{h}, []int64{5}, []any{"hello"}, 10},
		{"more than is there", 0, "", []string{h}, []int64{6, 6}, []any{"hello", end}, 10},
		{"an end again and again", 0, "", []string{h}, []int64{9, 9, 0, -5, 1, math.MaxInt64}, []any{"hello", end, "", "", end, end}, 10},
		{"a chunk behind the end", 0, "", []string{h, "yz"}, nine(3), []any{"hello", end, end}, 10},
		{"an empty chunk behind the end", 0, "", []string{h, "", "yz"}, nine(3), []any{"hello", end, end}, 10},
		{"bytes behind the end in its chunk", 0, "", []string{h + "xyz", "yz"}, []int64{2, 9, 9}, []any{"he", "llo", end}, 10},
		{"bytes behind the end, the end not read", 0, "", []string{h + "xyz"}, []int64{1}, []any{"h"}, 10},
		{"an end within a byte", 0, "", []string{"\x4b\x04", "\x00", "\x00"}, nine(3), []any{"a", end, end}, 3},
		{"no end", 0, "", []string{h[:7], h[7:9]}, nine(4), []any{"he", "ll", short, short}, 9},
		{"no end, and empty chunks", 0, "", []string{h[:7], "", ""}, nine(4), []any{"he", "", "", short}, 7},
		{"something wrong", 0, "", []string{h[:3], "\x00\x00hello", "more"}, nine(2), []any{bad, bad}, 10},
		{"something wrong behind a byte", 0, "", []string{"\x00\x01\x00\xfe\xffh", "\x07more", "more"}, []int64{9, 0, 9, 9}, []any{"h", "", bad, bad}, 11},
		{"something wrong in the chunk of a byte", 0, "", []string{"\x00\x01\x00\xfe\xffh\x07more", "more"}, nine(2), []any{"h", bad}, 11},
		{"a dictionary", 0, "xyz", []string{"\x03\x22", "\x00"}, nine(3), []any{"xyz", end, end}, 3},
		{"another dictionary", 0, "pqrst", []string{"\x03\x22", "\x00"}, nine(3), []any{"rst", end, end}, 3},
		{"a dictionary that is too short", 0, "yz", []string{"\x03\x22", "\x00"}, nine(2), []any{bad, bad}, 2},
	} {
		checkStreamRow(t, r)
	}
}

func TestZlibStreamsByName(t *testing.T) {
	good, asked := "\x78\x01\x4b\x04\x00\x00\x62\x00\x62", "\x08\x3c\x00\x65\x00\x65\x4b\x04\x00\x00\x62\x00\x62"
	end, short, bad, sum, dict := impl.ClassEnd, impl.ClassShort, impl.ClassBad, impl.ClassSum, impl.ClassDict
	nine := func(n int) []int64 { return manySizes(n, 9) }
	for _, r := range []streamRow{
		{"no chunk", 1, "", nil, nine(2), []any{short, short}, 0},
		{"the sum in another chunk", 1, "", []string{good[:4], good[4:8], good[8:] + "q", "q"}, nine(3), []any{"a", end, end}, 9},
		{"the sum not pulled", 1, "", []string{good[:4], good[4:]}, nine(1), []any{"a"}, 4},
		{"bytes behind", 1, "", []string{good + "q", "q"}, nine(1), []any{"a"}, 9},
		{"another sum", 1, "", []string{good[:8] + "\x63" + "qq", "q"}, nine(3), []any{"a", sum, sum}, 11},
		{"no sum", 1, "", []string{good[:5], good[5:8]}, nine(3), []any{"a", short, short}, 8},
		{"half a head", 1, "", []string{good[:1], ""}, nine(2), []any{"", short}, 1},
		{"a wrong head", 1, "", []string{"\x78", "\x02" + "qq", "q"}, nine(2), []any{bad, bad}, 4},
		{"a dictionary", 1, "d", []string{asked[:3], asked[3:]}, nine(2), []any{"a", end}, 13},
		{"another dictionary", 1, "e", []string{asked[:3], asked[3:7], asked[7:]}, nine(2), []any{dict, dict}, 7},
		{"no dictionary", 1, "", []string{asked[:5], asked[5:6], asked[6:]}, []int64{9, -1, 9}, []any{dict, "", dict}, 6},
		{"a dictionary that is not asked for", 1, "d", []string{good}, nine(2), []any{"a", end}, 9},
	} {
		checkStreamRow(t, r)
	}
}

func TestGzipStreamsByName(t *testing.T) {
	gz := "\x1f\x8b\x08\x00\x00\x00\x00\x00\x00\x00\x4b\x04\x00\x43\xbe\xb7\xe8\x01\x00\x00\x00"
	none := "\x1f\x8b\x08\x00\x00\x00\x00\x00\x00\x00\x03\x00\x00\x00\x00\x00\x00\x00\x00\x00"
	end, short, bad, sum := impl.ClassEnd, impl.ClassShort, impl.ClassBad, impl.ClassSum
	nine := func(n int) []int64 { return manySizes(n, 9) }
	for _, r := range []streamRow{
		{"no chunk", 2, "", nil, nine(2), []any{short, short}, 0},
		{"an empty chunk alone", 2, "", []string{""}, nine(2), []any{"", short}, 0},
		{"one member", 2, "", []string{gz}, nine(3), []any{"a", end, end}, 21},
		{"one member, its end not read", 2, "", []string{gz}, nine(1), []any{"a"}, 21},
		{"another member behind it", 2, "", []string{gz, gz}, nine(3), []any{"a", "a", end}, 42},
		{"another member not pulled", 2, "", []string{gz, gz}, nine(1), []any{"a"}, 21},
		{"another member begun", 2, "", []string{gz, gz[:12], gz[12:]}, nine(4), []any{"a", "a", end, end}, 42},
		{"another member cut", 2, "", []string{gz, gz[:11]}, nine(3), []any{"a", short, short}, 32},
		{"a first byte behind it", 2, "", []string{gz, "\x1f"}, nine(2), []any{"a", short}, 22},
		{"an empty chunk behind it", 2, "", []string{gz, ""}, nine(4), []any{"a", "", end, end}, 21},
		{"empty chunks behind it", 2, "", []string{gz, "", "", ""}, []int64{9, 9, 0, 9, 9, 9}, []any{"a", "", "", "", "", end}, 21},
		{"empty chunks behind it that are not pulled", 2, "", []string{gz, "", ""}, nine(2), []any{"a", ""}, 21},
		{"an empty chunk and a member", 2, "", []string{gz, "", gz}, nine(4), []any{"a", "", "a", end}, 42},
		{"bytes behind it that begin no member", 2, "", []string{gz, "?!", gz}, nine(3), []any{"a", bad, bad}, 23},
		{"such bytes in its chunk", 2, "", []string{gz + "?", "!"}, nine(2), []any{"a", bad}, 22},
		{"such bytes behind an empty chunk", 2, "", []string{gz, "", "?"}, nine(3), []any{"a", "", bad}, 22},
		{"a member of nothing", 2, "", []string{none}, nine(2), []any{end, end}, 20},
		{"members of nothing, one a chunk", 2, "", []string{none, none, none}, nine(1), []any{end}, 60},
		{"members of nothing before one", 2, "", []string{none, none + gz[:15], gz[15:], none}, nine(2), []any{"a", end}, 81},
		{"another sum", 2, "", []string{gz[:14], "?" + gz[15:], gz}, nine(3), []any{"a", sum, sum}, 21},
		{"another size", 2, "", []string{gz[:20], "?", gz}, nine(3), []any{"a", sum, sum}, 21},
		{"a dictionary is not looked at", 2, "dict", []string{gz}, nine(2), []any{"a", end}, 21},
		{"a dictionary is not looked at by a copy", 2, "dict", []string{gz[:10] + "\x03\x22", "\x00"}, nine(1), []any{bad}, 12},
	} {
		checkStreamRow(t, r)
	}
}

// TestGzipDictionariesMakeNoDifference has every gzip text with dictionaries that its copies could reach.
func TestGzipDictionariesMakeNoDifference(t *testing.T) {
	for _, x := range shortTexts() {
		if x.format != impl.FormatGzip {
			continue
		}
		chunks, sizes := x.cut([]int{len(x.b) / 2, len(x.b) - len(x.b)/2}), manySizes(5, 50)
		want := impl.Stream(2, nil, chunks, sizes)
		for _, dict := range [][]byte{{}, {0}, noiseText(143, 300), make([]byte, 70000)} {
			if got := impl.Stream(2, dict, chunks, sizes); !sameStream(got, want) {
				t.Errorf("%s: a dictionary of %d bytes makes a difference", x.what, len(dict))
			}
		}
	}
}

// TestLargeStreams has texts that tell as much as there may be, in reads of each size that 255 of them deliver all.
func TestLargeStreams(t *testing.T) {
	for _, x := range shortTexts() {
		if len(x.all().out) < 99000 {
			continue
		}
		for _, size := range []int64{393, 394, 400, 32768, 65536, 99999, 100000, 100001} {
			for _, lens := range [][]int{{len(x.b)}, {100, len(x.b) - 100}, slices.Repeat([]int{1}, len(x.b))} {
				checkStream(t, x, lens, manySizes(255, size))
			}
		}
	}
}

func TestStreamFormatsThatAreNone(t *testing.T) {
	chunks := []impl.Chunk{{Data: []byte(helloStored)}}
	for _, format := range []int64{-1, 3, 4, 255, 256, 1 << 32, 1<<32 + 1, math.MinInt64, math.MaxInt64} {
		for _, c := range [][]impl.Chunk{nil, chunks} {
			if got := impl.Stream(format, nil, c, manySizes(3, 9)); !zeroStream(got) {
				t.Errorf("format %d: %+v", format, got)
			}
		}
	}
	for format := range int64(3) {
		if got := impl.Stream(format, nil, chunks, manySizes(3, 9)); len(got.Reads) != 3 || got.Used != 10 {
			t.Errorf("format %d: %+v", format, got)
		}
	}
}

func TestStreamNumbersOfChunksAndSizes(t *testing.T) {
	a, _ := gzipA()
	for _, x := range []*streamText{
		newStreamText("raw", 0, nil, []byte(helloStored)),
		newStreamText("zlib", 1, []byte("d"), zlibOf(7, []byte("d"), plainFixed([]byte("abc")), []byte("abc"))),
		newStreamText("gzip", 2, nil, slices.Concat(a, a)),
	} {
		for _, chunks := range []int{1, 254, 255, 256, 300} {
			for _, sizes := range []int{0, 1, 254, 255, 256, 300} {
				for _, front := range []bool{true, false} {
					lens := make([]int, chunks)
					if lens[chunks-1] = len(x.b); front {
						lens[0], lens[chunks-1] = lens[chunks-1], lens[0]
					}
					if chunks <= 255 && sizes <= 255 {
						checkStream(t, x, lens, manySizes(sizes, 2))
					} else if got := impl.Stream(x.format, x.dict, x.cut(lens), manySizes(sizes, 2)); !zeroStream(got) {
						t.Errorf("%s: %d chunks, %d sizes: %d reads, %d used", x.what, chunks, sizes, len(got.Reads), got.Used)
					}
				}
			}
		}
	}
}

// inMaxTexts have just InMax bytes: streams as long as that, and short ones with bytes behind.
func inMaxTexts() []*streamText {
	text := noiseText(144, 65536)
	stored := func(n int) []byte { return plainStored(text[:n], 65535) }
	a, _ := gzipA()
	return []*streamText{
		newStreamText("raw", 0, nil, stored(65531)),
		newStreamText("raw, most of it behind the end", 0, nil, slices.Concat([]byte(helloStored), text[:65526])),
		newStreamText("zlib", 1, nil, zlibOf(7, nil, stored(65525), text[:65525])),
		newStreamText("gzip", 2, nil, slices.Concat(a, gzipOf(impl.Member{}, stored(65536-18-5-len(a)), text[:65536-18-5-len(a)]))),
		newStreamText("gzip, most of it no member", 2, nil, slices.Concat(a, text[:65536-len(a)])),
	}
}

func TestStreamOfInMaxBytes(t *testing.T) {
	g := &noise{145}
	for _, x := range inMaxTexts() {
		if len(x.b) != 65536 {
			t.Fatalf("%s: %d bytes", x.what, len(x.b))
		}
		for _, lens := range [][]int{{65536}, {1, 65535}, {65535, 1}, {0, 30000, 0, 35536, 0}, noiseLens(g, 65536, 30), append(slices.Repeat([]int{257}, 254), 258)} {
			checkStream(t, x, lens, manySizes(255, 300))
			checkStream(t, x, lens, manySizes(255, 1))
			checkStream(t, x, lens, manySizes(9, 1<<40))
		}
	}
}

func TestStreamAboveInMaxBytes(t *testing.T) {
	for _, x := range inMaxTexts() {
		x.b = append(x.b, 0)
		for _, lens := range [][]int{{65537}, {1, 65536}, {65536, 1}, {0, 65537, 0}, {30000, 0, 35537}, append(slices.Repeat([]int{257}, 254), 259)} {
			for _, sizes := range [][]int64{nil, {0}, {1}, manySizes(255, 300)} {
				if got := impl.Stream(x.format, x.dict, x.cut(lens), sizes); !zeroStream(got) {
					t.Errorf("%s: chunks %v: %d reads, %d used", x.what, lens, len(got.Reads), got.Used)
				}
			}
		}
	}
	long := impl.Chunk{Data: make([]byte, 1<<20)}
	if got := impl.Stream(0, nil, slices.Repeat([]impl.Chunk{long}, 255), manySizes(2, 2)); !zeroStream(got) {
		t.Errorf("many long chunks: %d reads, %d used", len(got.Reads), got.Used)
	}
}

// TestStreamOfLongDictionaries has dictionaries longer than all chunks may be: they do not count.
func TestStreamOfLongDictionaries(t *testing.T) {
	for _, n := range []int{32768, 65536, 65537, 200000} {
		dict := noiseText(146, n)
		raw := farCopy([]byte("told"), 32768)
		x := newStreamText("raw, a long dictionary", 0, dict, raw)
		if x.all().class != impl.ClassEnd {
			t.Fatalf("class %d", x.all().class)
		}
		checkStream(t, x, []int{2, len(raw) - 2}, manySizes(6, 3))
		z := newStreamText("zlib, a long dictionary", 1, dict, zlibOf(7, dict, raw, x.all().out))
		if z.all().class != impl.ClassEnd {
			t.Fatalf("class %d", z.all().class)
		}
		checkStream(t, z, []int{2, len(z.b) - 2}, manySizes(6, 3))
	}
}

// noiseSizes are sizes of all kinds.
func noiseSizes(g *noise) []int64 {
	kinds := []int64{-1, 0, 1, 1, 2, 3, 20, 300, 5000, math.MaxInt64}
	sizes := make([]int64, g.below(256))
	most := 1 + g.below(int64(len(kinds)))
	for i := range sizes {
		sizes[i] = kinds[g.below(most)]
		if g.below(3) == 0 {
			sizes[i] = 1 + g.below(40)
		}
	}
	return sizes
}

// noiseText7 is a text of noise's choice in any format: right, cut, changed, or with bytes behind.
func noiseText7(g *noise) *streamText {
	x := newStreamText("noise", g.below(3), nil, nil)
	x.whole = ownWhole
	for range 1 + g.below(3) {
		stream := noiseStream(g)
		res, _ := plainInflate(stream, 32768, nil)
		switch x.format {
		case impl.FormatRaw:
			x.b = stream
		case impl.FormatZlib:
			x.b = zlibOf(7, nil, stream, res.Out)
		case impl.FormatGzip:
			x.b = append(x.b, gzipOf(noiseMember(g, 0), stream, res.Out)...)
		}
	}
	switch g.below(4) {
	case 0:
		x.b = x.b[:g.below(int64(len(x.b))+1)]
	case 1:
		x.b[g.below(int64(len(x.b)))] ^= 1 << g.below(8)
	case 2:
		x.b = append(x.b, noiseText(g.next(), int(g.below(30)))...)
	}
	return x
}

func TestStreamsOfNoise(t *testing.T) {
	g := &noise{147}
	var seen [3][8]int
	for range 500 {
		x := noiseText7(g)
		for range 6 {
			checkStream(t, x, noiseLens(g, len(x.b), 1+g.below(254)), noiseSizes(g))
		}
		if len(x.b) <= 255 {
			checkStream(t, x, slices.Repeat([]int{1}, len(x.b)), noiseSizes(g))
		}
		seen[x.format][x.all().class]++
	}
	for format := range seen {
		for _, class := range []int{impl.ClassEnd, impl.ClassShort, impl.ClassBad} {
			if seen[format][class] < 5 {
				t.Errorf("format %d: class %d only %d times", format, class, seen[format][class])
			}
		}
	}
}

// guardedChunks are chunks with room behind each of them and behind the list.
func guardedChunks(x *streamText, lens []int) ([]*guarded, []impl.Chunk) {
	var guards []*guarded
	var chunks []impl.Chunk
	for _, c := range x.cut(lens) {
		g := guard(c.Data)
		guards, chunks = append(guards, g), append(chunks, impl.Chunk{Data: g.arg()})
	}
	return guards, append(chunks, impl.Chunk{Data: []byte("behind")})[:len(chunks)]
}

func TestStreamWritesIntoNoArgument(t *testing.T) {
	for _, x := range shortTexts() {
		third := len(x.b) / 3
		guards, chunks := guardedChunks(x, []int{third, 0, len(x.b) - third})
		dict, sizes := guard(x.dict), append(sizeLists(30)[2], 77)
		before := slices.Clone(sizes)
		impl.Stream(x.format, dict.arg(), chunks, sizes[:30])
		dict.check(t, x.what)
		for i, g := range guards {
			g.check(t, x.what)
			if len(chunks[i].Data) != g.length || g.length > 0 && &chunks[i].Data[0] != &g.whole[0] {
				t.Errorf("%s: chunk %d is another one", x.what, i)
			}
		}
		if behind := chunks[:4][3]; string(behind.Data) != "behind" || !slices.Equal(sizes, before) {
			t.Errorf("%s: a list was written into", x.what)
		}
	}
}

// TestStreamKeepsItsMemoryApart writes into each read's Data and looks at all others and at the arguments.
func TestStreamKeepsItsMemoryApart(t *testing.T) {
	for _, x := range shortTexts() {
		if len(x.all().out) > 1000 {
			continue
		}
		third := len(x.b) / 3
		guards, chunks := guardedChunks(x, []int{third, 0, len(x.b) - third})
		dict := guard(x.dict)
		sizes := []int64{1, 2, 9, 1, 9, 400, 9}
		want := impl.Stream(x.format, dict.arg(), chunks, sizes)
		for i := range sizes {
			got := impl.Stream(x.format, dict.arg(), chunks, sizes)
			others := [][]byte{dict.whole}
			for _, g := range guards {
				others = append(others, g.whole)
			}
			for j, r := range got.Reads {
				if j != i {
					others = append(others, r.Data)
				}
			}
			checkApart(t, x.what+", read "+strconv.Itoa(i), got.Reads[i].Data, others...)
		}
		if again := impl.Stream(x.format, dict.arg(), chunks, sizes); !sameStream(again, want) {
			t.Errorf("%s: a later answer hangs on what became of those before", x.what)
		}
	}
}

// TestStreamOfOneListManyTimes has the same memory as dictionary and as each chunk.
func TestStreamOfOneListManyTimes(t *testing.T) {
	g := guard([]byte("\x00\x02\x00\xfd\xffab"))
	chunk := impl.Chunk{Data: g.arg()}
	got := impl.Stream(0, g.arg(), []impl.Chunk{chunk, chunk, chunk}, []int64{9, 9, 9, 9})
	want := impl.StreamRes{Used: 21, Reads: []impl.ReadRes{{Data: []byte("ab")}, {Data: []byte("ab")}, {Data: []byte("ab")}, {Err: impl.ClassShort}}}
	if !sameStream(got, want) {
		t.Errorf("%+v", got)
	}
	g.check(t, "one list")
}
