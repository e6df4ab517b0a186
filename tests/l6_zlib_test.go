package tests

import (
	"bytes"
	"compress/flate"
	"compress/zlib"
	"io"
	"math"
	"slices"
	"strconv"
	"testing"

	"loop.example/s02972/impl"
)

func sameZlib(a, b impl.ZlibRes) bool {
	return a.Class == b.Class && a.Used == b.Used && bytes.Equal(a.Out, b.Out)
}

func checkZlib(t *testing.T, what string, b, dict []byte) impl.ZlibRes {
	t.Helper()
	got := impl.Zlib(b, dict)
	want, _ := plainZlib(b, dict)
	if !sameZlib(got, want) {
		t.Errorf("%s: %d bytes: class %d, %d bytes told, %d used; not class %d, %d bytes, %d used (or other bytes)", what, len(b), got.Class, len(got.Out), got.Used, want.Class, len(want.Out), want.Used)
	}
	return got
}

// zlibRow is a text with its class and its output, told by hand; used is 0 but for ClassEnd.
type zlibRow struct {
	what  string
	b     []byte
	dict  []byte
	class int64
	out   []byte
	used  int
}

func checkZlibRow(t *testing.T, r zlibRow) {
	t.Helper()
	got := checkZlib(t, r.what, r.b, r.dict)
	if !sameZlib(got, impl.ZlibRes{Class: r.class, Out: r.out, Used: int64(r.used)}) {
		t.Errorf("%s: class %d, %d bytes told, %d used; not class %d, %d bytes, %d used (or other bytes)", r.what, got.Class, len(got.Out), got.Used, r.class, len(r.out), r.used)
	}
}

// TestZlibOfEveryHead has all first bytes alone, and all pairs alone and with a stream of "a" behind them.
func TestZlibOfEveryHead(t *testing.T) {
	checkZlibRow(t, zlibRow{what: "no byte", class: impl.ClassShort})
	a := []byte("\x4b\x04\x00\x00\x62\x00\x62")
	var ends int
	for c := range int64(256) {
		checkZlibRow(t, zlibRow{what: "one byte", b: []byte{byte(c)}, class: impl.ClassShort})
		for f := range int64(256) {
			head := []byte{byte(c), byte(f)}
			r := zlibRow{what: "the head " + strconv.FormatInt(256*c+f, 16), b: head, class: impl.ClassBad}
			right := (256*c+f)%31 == 0 && c%16 == 8 && c < 128
			if right {
				r.class = impl.ClassShort
			}
			checkZlibRow(t, r)
			r.b = append(head, a...)
			if right && f&32 == 0 {
				r.class, r.out, r.used = impl.ClassEnd, []byte("a"), 9
				ends++
			} else if right {
				r.class = impl.ClassDict
			}
			checkZlibRow(t, r)
		}
	}
	if ends < 32 {
		t.Errorf("only %d heads are right", ends)
	}
}

// farCopy tells so many bytes, and then three more that lie dist behind.
func farCopy(told []byte, dist int64) []byte {
	w, c := (&bitText{}).stored(0, "0", told), fixedCodes()
	return w.head(1, 1).copied(c, 3, dist).lit(c, 256).b
}

// checkFarCopy has the bytes before the copy told, and in the dictionary.
func checkFarCopy(t *testing.T, info int64, before []byte, dist int64) {
	t.Helper()
	told := zlibRow{"bytes told", nil, nil, impl.ClassBad, before, 0}
	given := zlibRow{"bytes of a dictionary", nil, before, impl.ClassBad, nil, 0}
	if dist <= min(256<<info, int64(len(before))) {
		told.class, told.out = impl.ClassEnd, plainCopy(before, dist, 3)
		given.class, given.out = impl.ClassEnd, told.out[len(before):]
	}
	told.b = zlibOf(info, nil, farCopy(before, dist), told.out)
	given.b = zlibOf(info, before, farCopy(nil, dist), given.out)
	if told.class == impl.ClassEnd {
		told.used, given.used = len(told.b), len(given.b)
	}
	checkZlibRow(t, told)
	checkZlibRow(t, given)
}

// TestZlibWindows has for each size a copy of its farthest byte and of bytes behind it.
func TestZlibWindows(t *testing.T) {
	text := noiseText(101, 40000)
	for info := range int64(8) {
		size := int64(256) << info
		for _, before := range []int64{size - 1, size, size + 1, size + 300} {
			for _, dist := range []int64{1, size - 1, size, size + 1, size + 2, 2 * size} {
				if dist <= 32768 {
					checkFarCopy(t, info, text[:before], dist)
				}
			}
		}
	}
}

// TestZlibDictionaries has copies out of the dictionary: 1, -2, 1 added to neighbours keeps their sum.
func TestZlibDictionaries(t *testing.T) {
	dict, twin := []byte{10, 20, 30, 40}, []byte{11, 18, 31, 40}
	if plainAdler(1, dict) != plainAdler(1, twin) {
		t.Fatal("the sums are not the same")
	}
	all := zlibOf(3, dict, farCopy(nil, 4), dict[:3])
	part := zlibOf(3, dict, farCopy(nil, 3), dict[1:])
	for _, r := range []zlibRow{
		{"the dictionary", all, dict, impl.ClassEnd, dict[:3], len(all)},
		{"the dictionary, another part", part, dict, impl.ClassEnd, dict[1:], len(part)},
		{"one of the same sum", all, twin, impl.ClassEnd, twin[:3], len(all)},
		{"one of the same sum, a part of another sum", part, twin, impl.ClassSum, twin[1:], 0},
		{"another one", all, []byte{10, 20, 30, 41}, impl.ClassDict, nil, 0},
		{"another one, as far as the window", all, append(make([]byte, 3000), dict...), impl.ClassDict, nil, 0},
		{"a part of it", all, dict[1:], impl.ClassDict, nil, 0},
		{"none", all, nil, impl.ClassDict, nil, 0},
		{"an empty one", all, []byte{}, impl.ClassDict, nil, 0},
		{"none, where the sum is that of none", slices.Concat(all[:2], []byte{0, 0, 0, 1}, plainFixed(nil)), nil, impl.ClassDict, nil, 0},
		{"one given, none asked for", zlibOf(3, nil, farCopy(nil, 4), dict[:3]), dict, impl.ClassBad, nil, 0},
		{"one given, none asked for, no copy", zlibOf(3, nil, plainFixed(dict), dict), dict, impl.ClassEnd, dict, 12},
	} {
		checkZlibRow(t, r)
	}
	for _, d := range [][]byte{nil, dict, twin, {1}} {
		for n := range 4 {
			checkZlibRow(t, zlibRow{what: "a sum cut short", b: all[:2+n], dict: d, class: impl.ClassShort})
		}
	}
	checkZlibRow(t, zlibRow{what: "the sum and no more", b: all[:6], dict: dict, class: impl.ClassShort})
	checkZlibRow(t, zlibRow{what: "another sum and no more", b: all[:6], dict: []byte{1}, class: impl.ClassDict})
}

func TestEveryBitOfADictionarysSum(t *testing.T) {
	dict := []byte("dictionary")
	good := zlibOf(7, dict, plainFixed([]byte("a")), []byte("a"))
	for bit := range 32 {
		b := bytes.Clone(good)
		b[2+bit/8] ^= 1 << (bit % 8)
		checkZlibRow(t, zlibRow{what: "bit " + strconv.Itoa(bit), b: b, dict: dict, class: impl.ClassDict})
	}
}

// TestZlibOfLongDictionaries has dictionaries longer than the window, InMax and a part of the sums.
func TestZlibOfLongDictionaries(t *testing.T) {
	text := noiseText(102, 300000)
	for _, n := range []int{257, 32768, 32769, 65535, 65536, 65537, 100001, 300000} {
		for _, info := range []int64{0, 7} {
			dict := text[:n]
			dist := min(int64(n), 256<<info)
			out := plainCopy(dict, dist, 3)[n:]
			b := zlibOf(info, dict, farCopy(nil, dist), out)
			checkZlibRow(t, zlibRow{"a long dictionary", b, dict, impl.ClassEnd, out, len(b)})
			other := bytes.Clone(dict)
			other[0]++
			checkZlibRow(t, zlibRow{"another long dictionary", b, other, impl.ClassDict, nil, 0})
		}
	}
}

// streamRows are zlib texts of all streams of chapter 5: one that ends has its sum behind it, another one nothing.
func streamRows() []zlibRow {
	var rows []zlibRow
	for _, r := range inflateRows() {
		if len(r.b)+10 > 65536 {
			continue
		}
		for info := range int64(8) {
			if 256<<info != r.size && (info != 7 || r.what == "a distance") {
				continue
			}
			z := zlibRow{r.what, append(zlibHead(info, r.dict), r.b...), r.dict, r.class, r.out, 0}
			if r.size < 256<<info {
				res, _ := plainInflate(r.b, 256<<info, r.dict)
				z.class, z.out = res.Class, res.Out
			}
			if z.class == impl.ClassEnd {
				z.b = zlibOf(info, r.dict, r.b, z.out)
				z.used = len(z.b)
			}
			rows = append(rows, z)
		}
	}
	return rows
}

func TestZlibOfEachStream(t *testing.T) {
	var classes [8]int
	for _, r := range streamRows() {
		checkZlibRow(t, r)
		classes[r.class]++
	}
	for _, class := range []int{impl.ClassEnd, impl.ClassShort, impl.ClassBad, impl.ClassLarge} {
		if classes[class] < 5 {
			t.Errorf("class %d only %d times", class, classes[class])
		}
	}
}

// lastByteRows are streams that end at each bit of a byte, with the bits behind all 0 and all 1.
func lastByteRows() []infRow {
	var rows []infRow
	seen := map[int64]bool{}
	for n := range 20 {
		for _, x := range []byte{97, 200} {
			data := bytes.Repeat([]byte{x}, n)
			w, c := fixedBlock(1)
			w.text(c, data).lit(c, 256)
			if seen[w.n%8] {
				continue
			}
			seen[w.n%8] = true
			for _, fill := range []string{"0", "1"} {
				b := (&bitText{b: bytes.Clone(w.b), n: w.n}).fill(fill).b
				rows = append(rows, infRow{what: "bits in the last byte: " + strconv.FormatInt(w.n%8, 10) + " and " + fill, b: b, out: data})
			}
		}
	}
	stored := []byte("stored")
	return append(rows, infRow{what: "a stored block", b: plainStored(stored, 9), out: stored})
}

func TestZlibSums(t *testing.T) {
	rows := lastByteRows()
	if len(rows) != 17 {
		t.Fatalf("%d rows", len(rows))
	}
	for _, r := range rows {
		good := zlibOf(7, nil, r.b, r.out)
		end := len(good)
		checkZlibRow(t, zlibRow{r.what, good, nil, impl.ClassEnd, r.out, end})
		for n := range 4 {
			checkZlibRow(t, zlibRow{r.what + ", cut", good[:end-4+n], nil, impl.ClassShort, r.out, 0})
		}
		for bit := range 32 {
			b := bytes.Clone(good)
			b[end-4+bit/8] ^= 1 << (bit % 8)
			checkZlibRow(t, zlibRow{r.what + ", another sum", b, nil, impl.ClassSum, r.out, 0})
			checkZlibRow(t, zlibRow{r.what + ", another sum and bytes behind", append(b, good...), nil, impl.ClassSum, r.out, 0})
		}
		for _, behind := range [][]byte{{0}, {0xff}, good, noiseText(103, 300)} {
			checkZlibRow(t, zlibRow{r.what + ", bytes behind", append(bytes.Clone(good), behind...), nil, impl.ClassEnd, r.out, end})
		}
	}
}

// TestZlibSumIsThatOfTheOutput looks that neither the dictionary nor another order of the bytes goes into it.
func TestZlibSumIsThatOfTheOutput(t *testing.T) {
	dict, out := []byte("dict"), []byte("abab")
	with := zlibOf(7, dict, plainFixed(out), append(bytes.Clone(dict), out...))
	checkZlibRow(t, zlibRow{"the sum of dictionary and output", with, dict, impl.ClassSum, out, 0})
	b := zlibOf(7, nil, plainFixed(out), out)
	slices.Reverse(b[len(b)-4:])
	checkZlibRow(t, zlibRow{"the sum with its lowest byte first", b, nil, impl.ClassSum, out, 0})
}

func TestZlibOutsideItsBounds(t *testing.T) {
	a := zlibOf(7, nil, plainFixed([]byte("a")), []byte("a"))
	padded := append(bytes.Clone(a), make([]byte, 65536-len(a))...)
	checkZlibRow(t, zlibRow{"InMax bytes, most of them behind the end", padded, nil, impl.ClassEnd, []byte("a"), len(a)})
	text := noiseText(104, 65536-2-5-4)
	full := zlibOf(7, nil, plainStored(text, 65535), text)
	if len(full) != 65536 {
		t.Fatalf("%d bytes", len(full))
	}
	checkZlibRow(t, zlibRow{"InMax bytes", full, nil, impl.ClassEnd, text, 65536})
	for _, b := range [][]byte{append(padded, 0), append(full, 0), make([]byte, 65537), make([]byte, 200000)} {
		checkZlibRow(t, zlibRow{"above InMax", b, nil, impl.ClassLong, nil, 0})
		checkZlibRow(t, zlibRow{"above InMax, with a dictionary", b, []byte("d"), impl.ClassLong, nil, 0})
	}
}

// beginningRows are texts of each class that is decided by what was read; long ones would take too long to be tried at every beginning.
func beginningRows() []zlibRow {
	dict := []byte("a dictionary")
	out := []byte("a text")
	good := zlibOf(7, nil, plainFixed(out), out)
	withDict := zlibOf(1, dict, farCopy(out, 12), plainCopy(append(bytes.Clone(dict), out...), 12, 3)[12:])
	rows := []zlibRow{
		{"no end", good[:len(good)-1], nil, impl.ClassShort, out, 0},
		{"a dictionary", withDict, dict, impl.ClassEnd, nil, 0},
		{"another dictionary", withDict, out, impl.ClassDict, nil, 0},
		{"no dictionary", withDict, nil, impl.ClassDict, nil, 0},
		{"another sum", zlibOf(7, nil, plainFixed(out), dict), nil, impl.ClassSum, nil, 0},
		{"a wrong head", []byte{0x78, 2}, nil, impl.ClassBad, nil, 0},
		{"another method", []byte{0x79, 5}, nil, impl.ClassBad, nil, 0},
		{"a great window", []byte{0x88, 0x1c}, nil, impl.ClassBad, nil, 0},
	}
	for _, r := range lastByteRows() {
		rows = append(rows, zlibRow{what: r.what, b: zlibOf(2, nil, r.b, r.out), class: impl.ClassEnd})
		rows = append(rows, zlibRow{what: r.what, b: zlibOf(2, nil, r.b, dict), class: impl.ClassSum})
	}
	for _, r := range streamRows() {
		if len(r.b) <= 1010 && len(r.dict) <= 600 {
			rows = append(rows, r)
		}
	}
	return rows
}

// checkZlibBeginnings holds the answers for all beginnings of a text against that for the whole.
func checkZlibBeginnings(t *testing.T, r zlibRow) {
	t.Helper()
	whole := impl.Zlib(r.b, r.dict)
	_, read := plainZlib(r.b, r.dict)
	for n := range len(r.b) + 1 {
		got := impl.Zlib(r.b[:n], r.dict)
		if !bytes.HasPrefix(whole.Out, got.Out) {
			t.Fatalf("%s: the first %d bytes tell what the whole does not", r.what, n)
		}
		all := 8*int64(n) >= read
		if all && whole.Class != impl.ClassShort && !sameZlib(got, whole) {
			t.Errorf("%s: all that was read is in the first %d bytes, but class %d, %d bytes told", r.what, n, got.Class, len(got.Out))
		}
		if !all && got.Class != impl.ClassShort {
			t.Errorf("%s: the first %d bytes: class %d", r.what, n, got.Class)
		}
	}
}

func TestZlibBeginnings(t *testing.T) {
	var classes [8]int
	for _, r := range beginningRows() {
		if r.class != impl.ClassShort {
			r.b = append(bytes.Clone(r.b), 0x55, 0xaa, 0, 0xff, 1)
		}
		checkZlibBeginnings(t, r)
		class := impl.Zlib(r.b, r.dict).Class
		if r.class != class {
			t.Errorf("%s: class %d, not %d", r.what, class, r.class)
		}
		classes[class]++
	}
	for class := impl.ClassEnd; class <= impl.ClassLarge; class++ {
		if classes[class] == 0 {
			t.Errorf("no text of class %d", class)
		}
	}
}

// TestZlibBeginningsAgainstThePlainReading looks at what each beginning tells, and not only whether the whole tells it too.
func TestZlibBeginningsAgainstThePlainReading(t *testing.T) {
	for _, r := range beginningRows() {
		if r.what == "a distance" || len(r.b) > 500 {
			continue
		}
		for n := range len(r.b) {
			checkZlib(t, r.what+", a beginning", r.b[:n], r.dict)
		}
	}
}

// sampleData are texts for the encoders: none, one byte, all bytes, bytes with long codes alone.
func sampleData() [][]byte {
	every := make([]byte, 256)
	for i := range every {
		every[i] = byte(i)
	}
	return [][]byte{nil, {}, {0}, {255}, []byte("a"), []byte("hello"), every, bytes.Repeat([]byte{200}, 17), noiseText(105, 3000)}
}

func TestEncodeZlib(t *testing.T) {
	for info := range int64(8) {
		for _, dict := range [][]byte{nil, {}, {0}, []byte("d"), noiseText(106, 500), noiseText(107, 70000)} {
			for _, data := range sampleData() {
				got, want := impl.EncodeZlib(data, info, dict), zlibOf(info, dict, plainFixed(data), data)
				if !bytes.Equal(got, want) {
					t.Errorf("%d bytes, info %d, dictionary of %d: % x, not % x", len(data), info, len(dict), got[:min(len(got), 20)], want[:min(len(want), 20)])
				}
			}
		}
	}
	if got := impl.EncodeZlib(nil, 7, []byte("d")); got[0] != 0x78 || got[1] != 0x20 {
		t.Errorf("0 and 31 both would do, but % x", got)
	}
	if got := impl.Zlib([]byte("\x78\x3f\x00\x65\x00\x65\x4b\x04\x00\x00\x62\x00\x62"), []byte("d")); got.Class != impl.ClassEnd || string(got.Out) != "a" || got.Used != 13 {
		t.Errorf("31 instead of 0: class %d", got.Class)
	}
}

func TestEncodeZlibOutsideItsBounds(t *testing.T) {
	text := noiseText(108, 100001)
	for _, info := range []int64{-1, 8, -8, 15, 16, 1 << 32, 1<<32 + 7, math.MinInt64, math.MaxInt64} {
		for _, dict := range [][]byte{nil, []byte("d")} {
			for _, n := range []int{0, 1, 100000} {
				if got := impl.EncodeZlib(text[:n], info, dict); len(got) != 0 {
					t.Errorf("info %d: %d bytes", info, len(got))
				}
			}
		}
	}
	for _, info := range []int64{0, 7} {
		for _, dict := range [][]byte{nil, []byte("d")} {
			if got := impl.EncodeZlib(text[:100000], info, dict); !bytes.Equal(got, zlibOf(info, dict, plainFixed(text[:100000]), text[:100000])) {
				t.Errorf("OutMax bytes, info %d: %d bytes, or others", info, len(got))
			}
			for _, data := range [][]byte{text, make([]byte, 200000)} {
				if got := impl.EncodeZlib(data, info, dict); len(got) != 0 {
					t.Errorf("%d bytes, info %d: %d bytes", len(data), info, len(got))
				}
			}
		}
	}
}

func checkZlibBack(t *testing.T, data []byte, info int64, dict []byte) {
	t.Helper()
	code := impl.EncodeZlib(data, info, dict)
	if len(code) > 65536 {
		return
	}
	want := impl.ZlibRes{Class: impl.ClassEnd, Out: data, Used: int64(len(code))}
	if got := impl.Zlib(code, dict); !sameZlib(got, want) {
		t.Errorf("%d bytes, info %d, dictionary of %d: class %d, %d bytes told, %d used of %d", len(data), info, len(dict), got.Class, len(got.Out), got.Used, len(code))
	}
	if len(dict) > 0 {
		want = impl.ZlibRes{Class: impl.ClassDict}
	}
	other := append(bytes.Clone(dict), 1)
	for _, d := range [][]byte{nil, {}, {7}, other} {
		if got := impl.Zlib(code, d); !sameZlib(got, want) {
			t.Errorf("%d bytes, dictionary of %d, another one of %d: class %d, %d bytes told", len(data), len(dict), len(d), got.Class, len(got.Out))
		}
	}
}

func TestZlibGivesTheDataBack(t *testing.T) {
	text := noiseText(109, 100000)
	low := bytes.Clone(text)
	for i := range low {
		low[i] %= 144
	}
	for info := range int64(8) {
		for _, dict := range [][]byte{nil, []byte("d"), text[:300], text[:40000], text} {
			for _, data := range sampleData() {
				checkZlibBack(t, data, info, dict)
			}
			for _, n := range []int{142, 143, 144, 40000, 60000, 61000} {
				checkZlibBack(t, text[:n], info, dict)
			}
			most := 65536 - 2 - 2 - 4
			if len(dict) > 0 {
				most -= 4
			}
			for _, n := range []int{most - 1, most} {
				checkZlibBack(t, low[:n], info, dict)
			}
			if code := impl.EncodeZlib(low[:most], info, dict); len(code) != 65536 {
				t.Errorf("%d low bytes are %d", most, len(code))
			}
			if code := impl.EncodeZlib(low[:most+1], info, dict); impl.Zlib(code, dict).Class != impl.ClassLong {
				t.Errorf("%d low bytes are %d, and not too long", most+1, len(code))
			}
		}
	}
}

// TestOneByteChangedInAZlibCode has every byte of some codes with every other value.
func TestOneByteChangedInAZlibCode(t *testing.T) {
	var same, sums int
	for _, dict := range [][]byte{nil, []byte("dictionary")} {
		for _, data := range [][]byte{nil, []byte("a"), []byte("hello, hello"), {200, 201, 202}, noiseText(110, 60)} {
			code := impl.EncodeZlib(data, 4, dict)
			for at := range code {
				for x := 1; x < 256; x++ {
					b := bytes.Clone(code)
					b[at] ^= byte(x)
					got := impl.Zlib(b, dict)
					if x&(x-1) == 0 {
						checkZlib(t, "one bit changed", b, dict)
					}
					if got.Class == impl.ClassSum {
						sums++
					}
					if got.Class != impl.ClassEnd || got.Used != int64(len(code)) {
						continue
					}
					same++
					if !bytes.Equal(got.Out, data) && plainAdler(1, got.Out) != plainAdler(1, data) {
						t.Errorf("byte %d of %d changed by %d: %x, not %x", at, len(code), x, got.Out, data)
					}
				}
			}
		}
	}
	if same < 100 || sums < 1000 {
		t.Errorf("only %d changed codes end, %d have another sum", same, sums)
	}
}

func zlibOfLibrary(t *testing.T, level int, text, dict []byte) []byte {
	t.Helper()
	var b bytes.Buffer
	w, err := zlib.NewWriterLevelDict(&b, level, dict)
	if err != nil {
		t.Fatal(err)
	}
	w.Write(text)
	w.Close()
	return b.Bytes()
}

func TestZlibOfAnotherEncoder(t *testing.T) {
	dict := []byte("the pieces of the window and the chunks of bits in the window")
	for what, text := range flateTexts() {
		for _, level := range []int{flate.HuffmanOnly, flate.NoCompression, 1, 6, 9} {
			for _, d := range [][]byte{nil, dict} {
				b := zlibOfLibrary(t, level, text, d)
				if len(b) > 65536 {
					continue
				}
				if got := impl.Zlib(b, d); !sameZlib(got, impl.ZlibRes{Class: impl.ClassEnd, Out: text, Used: int64(len(b))}) {
					t.Errorf("%s, level %d: class %d, %d bytes told, %d used of %d", what, level, got.Class, len(got.Out), got.Used, len(b))
				}
			}
		}
	}
}

func TestZlibCodesAreReadByAnotherReader(t *testing.T) {
	for _, dict := range [][]byte{nil, []byte("dictionary")} {
		for _, data := range sampleData() {
			r, err := zlib.NewReaderDict(bytes.NewReader(impl.EncodeZlib(data, 7, dict)), dict)
			if err != nil {
				t.Errorf("%d bytes: %v", len(data), err)
				continue
			}
			if out, err := io.ReadAll(r); err != nil || !bytes.Equal(out, data) {
				t.Errorf("%d bytes: %v, %d bytes", len(data), err, len(out))
			}
		}
	}
}

// noiseStream is a stream of up to three blocks of noise's choice.
func noiseStream(g *noise) []byte {
	w, told := &bitText{}, int64(0)
	blocks := 1 + g.below(3)
	for i := range blocks {
		told = noiseBlock(g, w, (i+1)/blocks, told)
	}
	return w.b
}

// TestZlibOfNoise has blocks of noise's choice in a frame, cut, changed and with any dictionary.
func TestZlibOfNoise(t *testing.T) {
	g := &noise{111}
	var seen [8]int
	for range 400 {
		stream := noiseStream(g)
		dict := noiseText(g.next(), int(g.below(2)*g.below(400)))
		info := g.below(8)
		res, _ := plainInflate(stream, 256<<info, dict)
		b := append(zlibOf(info, dict, stream, res.Out), noiseText(g.next(), int(g.below(5)))...)
		seen[checkZlib(t, "noise", b, dict).Class]++
		seen[checkZlib(t, "noise, another dictionary", b, dict[:g.below(int64(len(dict))+1)]).Class]++
		seen[checkZlib(t, "noise, cut", b[:g.below(int64(len(b)))], dict).Class]++
		b[g.below(int64(len(b)))] ^= 1 << g.below(8)
		seen[checkZlib(t, "noise, one bit turned", b, dict).Class]++
	}
	for _, class := range []int{impl.ClassEnd, impl.ClassShort, impl.ClassBad, impl.ClassSum, impl.ClassDict} {
		if seen[class] < 20 {
			t.Errorf("class %d only %d times", class, seen[class])
		}
	}
}

func TestZlibKeepsItsMemoryApart(t *testing.T) {
	for _, r := range beginningRows() {
		b, dict := guard(r.b), guard(r.dict)
		got := impl.Zlib(b.arg(), dict.arg())
		b.check(t, r.what)
		dict.check(t, r.what)
		checkApart(t, r.what, got.Out, b.whole, dict.whole)
		want, _ := plainZlib(b.arg(), dict.arg())
		if again := impl.Zlib(b.arg(), dict.arg()); !sameZlib(again, want) {
			t.Errorf("%s: a second answer hangs on what became of the first", r.what)
		}
	}
}

func TestEncodeZlibKeepsItsMemoryApart(t *testing.T) {
	for _, info := range []int64{-1, 0, 7, 8} {
		for _, n := range []int{0, 1, 100, 1000} {
			data, dict := guard(noiseText(112, n)), guard(noiseText(113, n))
			checkApart(t, "EncodeZlib", impl.EncodeZlib(data.arg(), info, dict.arg()), data.whole, dict.whole)
			checkApart(t, "EncodeZlib", impl.EncodeZlib(data.arg(), info, data.arg()), data.whole)
			data.check(t, "EncodeZlib")
			dict.check(t, "EncodeZlib")
		}
	}
}
