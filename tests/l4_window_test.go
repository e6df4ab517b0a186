package tests

import (
	"bytes"
	"math"
	"strconv"
	"testing"

	"loop.example/s02972/impl"
)

// plainWindow is all that was told, cut to its last size bytes.
func plainWindow(size int64, told []byte) impl.Window {
	return impl.Window{Size: size, Data: told[max(0, len(told)-int(size)):]}
}

func sameWindow(a, b impl.Window) bool {
	return a.Size == b.Size && bytes.Equal(a.Data, b.Data)
}

func checkWindow(t *testing.T, what string, got, want impl.Window) {
	t.Helper()
	if !sameWindow(got, want) {
		t.Errorf("%s: Size %d, %d bytes; not Size %d, %d bytes (or other bytes)", what, got.Size, len(got.Data), want.Size, len(want.Data))
	}
	if !impl.ValidWindow(got) {
		t.Errorf("%s: the answer is not a valid window", what)
	}
}

func zeroWindow(w impl.Window) bool {
	return w.Size == 0 && len(w.Data) == 0
}

func zeroCopy(c impl.CopyRes) bool {
	return !c.Ok && len(c.Data) == 0 && zeroWindow(c.Window)
}

// plainCopy adds one byte after the other to all that was told.
func plainCopy(told []byte, dist, n int64) []byte {
	told = bytes.Clone(told)
	for range n {
		told = append(told, told[int64(len(told))-dist])
	}
	return told
}

func oddSizes() []int64 {
	return []int64{0, -1, -2, -32768, 32769, 65536, 1 << 32, 1<<32 + 1, math.MinInt64, math.MaxInt64}
}

func windowSizes() []int64 {
	return []int64{1, 2, 3, 5, 257, 258, 259, 1000, 32767, 32768}
}

func invalidWindows() map[string]impl.Window {
	rows := map[string]impl.Window{
		"zero":                      {},
		"one byte more than Size 1": {Size: 1, Data: []byte("ab")},
		"one byte more than Size 5": {Size: 5, Data: []byte("abcdef")},
		"many more":                 {Size: 5, Data: make([]byte, 40000)},
		"one more than WinMax":      {Size: 32768, Data: make([]byte, 32769)},
	}
	for _, size := range oddSizes() {
		name := "Size " + strconv.FormatInt(size, 10)
		rows[name+", empty"] = impl.Window{Size: size}
		rows[name+", with data"] = impl.Window{Size: size, Data: []byte("abc")}
	}
	rows["above WinMax, filled"] = impl.Window{Size: 32769, Data: make([]byte, 32769)}
	return rows
}

func TestValidWindow(t *testing.T) {
	for what, w := range invalidWindows() {
		if impl.ValidWindow(w) {
			t.Errorf("%s: valid", what)
		}
	}
	for _, size := range windowSizes() {
		for _, n := range []int64{0, 1, size / 2, size - 1, size} {
			if !impl.ValidWindow(impl.Window{Size: size, Data: make([]byte, n)}) {
				t.Errorf("size %d with %d bytes is not valid", size, n)
			}
		}
		if impl.ValidWindow(impl.Window{Size: size, Data: make([]byte, size+1)}) {
			t.Errorf("size %d with %d bytes is valid", size, size+1)
		}
	}
	if !impl.ValidWindow(impl.Window{Size: 4, Data: make([]byte, 3, 9)}) {
		t.Errorf("the room behind Data counts")
	}
}

func TestWindowsThatAreNotValid(t *testing.T) {
	for what, w := range invalidWindows() {
		for _, data := range [][]byte{nil, {}, []byte("x"), make([]byte, 40000)} {
			if !zeroWindow(impl.WindowPut(w, data)) {
				t.Errorf("%s: WindowPut of %d bytes is not zero", what, len(data))
			}
		}
		for _, dist := range []int64{0, 1, 2, int64(len(w.Data))} {
			for _, n := range []int64{0, 1, 258} {
				if !zeroCopy(impl.WindowCopy(w, dist, n)) {
					t.Errorf("%s: WindowCopy of %d from %d is not zero", what, n, dist)
				}
			}
		}
	}
}

func TestWindowNew(t *testing.T) {
	text := noiseText(51, 80000)
	for _, size := range windowSizes() {
		for _, n := range []int64{0, 1, size / 2, size - 1, size, size + 1, 2*size - 1, 2 * size, 2*size + 1, 80000} {
			checkWindow(t, "new", impl.WindowNew(size, text[:n]), plainWindow(size, text[:n]))
		}
		checkWindow(t, "no dictionary", impl.WindowNew(size, nil), impl.Window{Size: size})
	}
	for _, size := range oddSizes() {
		for _, n := range []int{0, 1, 3, 80000} {
			if !zeroWindow(impl.WindowNew(size, text[:n])) {
				t.Errorf("size %d with %d bytes: not the zero Window", size, n)
			}
		}
	}
}

func TestWindowPut(t *testing.T) {
	text := noiseText(52, 150000)
	for _, size := range windowSizes() {
		for _, before := range []int64{0, 1, size / 2, size - 1, size} {
			w := impl.Window{Size: size, Data: text[:before]}
			for _, n := range []int64{0, 1, 2, size - before - 1, size - before, size - before + 1, size - 1, size, size + 1, 2 * size, 3*size + 1} {
				if n < 0 {
					continue
				}
				checkWindow(t, "put", impl.WindowPut(w, text[before:before+n]), plainWindow(size, text[:before+n]))
			}
			checkWindow(t, "put nil", impl.WindowPut(w, nil), w)
		}
	}
}

func TestWindowCopy(t *testing.T) {
	text := noiseText(53, 32768)
	for _, size := range windowSizes() {
		for _, count := range []int64{1, size/2 + 1, size - 1, size} {
			told := text[:count]
			w := impl.Window{Size: size, Data: told}
			for _, dist := range []int64{1, 2, 3, 100, 257, 258, 259, count / 2, count - 1, count} {
				for _, n := range []int64{1, 2, 3, dist - 1, dist, dist + 1, 2*dist + 1, size - count, size - count + 1, 257, 258} {
					if dist >= 1 && dist <= count && n >= 1 && n <= 258 {
						checkCopy(t, w, dist, n)
					}
				}
			}
		}
	}
}

func checkCopy(t *testing.T, w impl.Window, dist, n int64) {
	t.Helper()
	after := plainCopy(w.Data, dist, n)
	c := impl.WindowCopy(w, dist, n)
	if !c.Ok || !bytes.Equal(c.Data, after[len(w.Data):]) {
		t.Errorf("size %d, %d bytes: %d from %d back: %v, %d bytes", w.Size, len(w.Data), n, dist, c.Ok, len(c.Data))
	}
	checkWindow(t, "after a copy", c.Window, plainWindow(w.Size, after))
}

func TestCopiesByName(t *testing.T) {
	rows := []struct {
		size     int64
		before   string
		dist, n  int64
		out, now string
	}{
		{10, "abc", 1, 1, "c", "abcc"},
		{10, "abc", 1, 4, "cccc", "abccccc"},
		{10, "abc", 3, 3, "abc", "abcabc"},
		{10, "abc", 3, 8, "abcabcab", "bcabcabcab"},
		{10, "abc", 2, 5, "bcbcb", "abcbcbcb"},
		{3, "abc", 3, 1, "a", "bca"},
		{3, "abc", 3, 2, "ab", "cab"},
		{3, "abc", 3, 7, "abcabca", "bca"},
		{3, "abc", 2, 4, "bcbc", "cbc"},
		{1, "a", 1, 3, "aaa", "a"},
		{4, "a", 1, 6, "aaaaaa", "aaaa"},
	}
	for i, r := range rows {
		c := impl.WindowCopy(impl.Window{Size: r.size, Data: []byte(r.before)}, r.dist, r.n)
		if !c.Ok || string(c.Data) != r.out || c.Window.Size != r.size || string(c.Window.Data) != r.now {
			t.Errorf("row %d: %+v", i, c)
		}
	}
}

func TestCopiesOutsideTheirBounds(t *testing.T) {
	text := noiseText(54, 32768)
	for _, w := range []impl.Window{{Size: 9}, {Size: 9, Data: text[:4]}, {Size: 9, Data: text[:9]}, {Size: 32768, Data: text[:300]}, {Size: 32768, Data: text}} {
		count := int64(len(w.Data))
		for _, dist := range []int64{0, -1, -count, count + 1, count + 2, 32769, 1 << 32, 1<<32 + 1, math.MinInt64, math.MaxInt64} {
			for _, n := range []int64{1, 2, 258} {
				if !zeroCopy(impl.WindowCopy(w, dist, n)) {
					t.Errorf("%d bytes: a copy from %d back is not zero", count, dist)
				}
			}
		}
		for _, n := range []int64{0, -1, 259, 260, 1 << 32, 1<<32 + 1, math.MinInt64, math.MaxInt64} {
			for _, dist := range []int64{0, 1, count} {
				if !zeroCopy(impl.WindowCopy(w, dist, n)) {
					t.Errorf("%d bytes: a copy of %d is not zero", count, n)
				}
			}
		}
	}
}

func TestWindowsOfNoise(t *testing.T) {
	g := &noise{55}
	for _, size := range []int64{1, 2, 3, 7, 64, 300, 600, 32768} {
		told := noiseText(uint64(size), int(g.below(2*size+1)))
		w := impl.WindowNew(size, told)
		checkWindow(t, "new in a run", w, plainWindow(size, told))
		for range 250 {
			if g.below(3) == 0 || len(w.Data) == 0 {
				data := noiseText(g.next(), int(g.below(min(size, 900)+3)))
				told = append(told, data...)
				w = impl.WindowPut(w, data)
			} else {
				dist, n := 1+g.below(int64(len(w.Data))), 1+g.below(258)
				before := len(told)
				told = plainCopy(told, dist, n)
				c := impl.WindowCopy(w, dist, n)
				if !c.Ok || !bytes.Equal(c.Data, told[before:]) {
					t.Fatalf("size %d: %d from %d back: %v %x", size, n, dist, c.Ok, c.Data)
				}
				w = c.Window
			}
			checkWindow(t, "in a run", w, plainWindow(size, told))
		}
	}
}

// TestPartsAreAsTheWhole tells one text in parts of many sizes.
func TestPartsAreAsTheWhole(t *testing.T) {
	text := noiseText(56, 3000)
	for _, size := range []int64{1, 2, 100, 1000, 2999, 3000, 3001, 32768} {
		for seed := uint64(1); seed <= 6; seed++ {
			w := impl.WindowNew(size, nil)
			for _, part := range cutAtNoise(seed, text, int64(seed*seed*30)) {
				w = impl.WindowPut(w, part)
			}
			checkWindow(t, "in parts", w, impl.WindowNew(size, text))
		}
	}
}

func TestWindowsKeepTheirMemoryApart(t *testing.T) {
	text := noiseText(57, 40)
	for _, size := range []int64{1, 5, 20, 40, 60, 32768} {
		for _, count := range []int64{0, 1, min(size, 40)} {
			g, data := guard(text[:count]), guard(text)
			w := impl.Window{Size: size, Data: g.arg()}
			for n := range int64(len(text) + 1) {
				put, made := impl.WindowPut(w, data.arg()[:n]), impl.WindowNew(size, data.arg()[:n])
				checkApart(t, "WindowPut", put.Data, g.whole, data.whole)
				checkApart(t, "WindowNew", made.Data, data.whole)
			}
			for _, n := range []int64{0, 1, 3, 39, 258} {
				c := impl.WindowCopy(w, count, n)
				checkApart(t, "WindowCopy", c.Data, c.Window.Data, g.whole)
				checkApart(t, "WindowCopy, its Window", c.Window.Data, c.Data, g.whole)
			}
			g.check(t, "windows")
			data.check(t, "data")
		}
	}
}

func TestPutOfItsOwnBytes(t *testing.T) {
	g := guard([]byte("abc"))
	w := impl.Window{Size: 5, Data: g.arg()}
	checkWindow(t, "the window's own bytes", impl.WindowPut(w, w.Data), impl.Window{Size: 5, Data: []byte("bcabc")})
	g.check(t, "own bytes")
}
