package tests

import (
	"bytes"
	"slices"
	"testing"

	"loop.example/s02972/impl"
)

// checkScript is promise 14.
func checkScript(t *testing.T, what string, script []byte) []byte {
	t.Helper()
	got, want := impl.RunScript(script), plainScript(script)
	if !bytes.Equal(got, want) {
		t.Errorf("%s: a script of %d bytes: % x, not % x", what, len(script), got[:min(len(got), 60)], want[:min(len(want), 60)])
	}
	return got
}

func TestScriptsByName(t *testing.T) {
	rows := []struct {
		what, script, answer string
	}{
		{"no byte", "", "\x00\x00\x00\x00"},
		{"zeros", "\x00\x00\x00\x00", "\x00\x00\x00\x00"},
		{"bytes behind, no chunk", "\x00\x00\x00\x00more", "\x00\x00\x00\x00"},
		{"the document's example", "\x00\x00\x04\x06\x00\x02\x06\x06\x09\x09\x00\x09\x09\x09" + helloStored + "more", "\x00\x01h\x00\x00\x00\x00\x00\x02el\x00\x02lo\x01\x00\x0a\x00\x00\x00"},
		{"no chunk", "\x00\x00\x00\x02\x01\xff", "\x02\x00\x02\x00\x00\x00\x00\x00"},
		{"no chunk, zlib", "\x01\x00\x00\x01\x01", "\x02\x00\x00\x00\x00\x00"},
		{"no chunk, gzip", "\x02\x00\x00\x01\x01", "\x02\x00\x00\x00\x00\x00"},
		{"no read", "\x00\x00\x01\x0a\x00" + helloStored, "\x00\x00\x00\x00"},
		{"a read of 0", "\x00\x00\x01\x0a\x01\x00" + helloStored, "\x00\x00\x00\x00\x00\x00"},
		{"one read", "\x00\x00\x01\x0a\x01\x05" + helloStored, "\x00\x05hello\x0a\x00\x00\x00"},
		{"one read of 255", "\x00\x00\x01\x0a\x02\xff\xff" + helloStored, "\x00\x05hello\x01\x00\x0a\x00\x00\x00"},
		{"zeros behind the end of the script", "\x00\x00\x01\x0c\x02\x09\x01\x01\x07\x00\xf8\xffhel", "\x00\x07hel\x00\x00\x00\x00\x01\x00\x0c\x00\x00\x00"},
		{"a dictionary for raw", "\x00\x03xyz\x01\x03\x02\x09\x09\x03\x22\x00", "\x00\x03xyz\x01\x00\x03\x00\x00\x00"},
		{"a dictionary cut, and no more", "\x00\x05xyz", "\x00\x00\x00\x00"},
		{"zlib, another dictionary", "\x01\x01e\x01\x0d\x01\x05\x08\x3c\x00\x65\x00\x65\x4b\x04\x00\x00\x62\x00\x62", "\x05\x00\x0d\x00\x00\x00"},
		{"zlib by its number and 3", "\x04\x01d\x01\x0d\x02\x05\x05\x08\x3c\x00\x65\x00\x65\x4b\x04\x00\x00\x62\x00\x62", "\x00\x01a\x01\x00\x0d\x00\x00\x00"},
		{"gzip by 255 - 1", "\xfe\x00\x01\x15\x02\x05\x05\x1f\x8b\x08\x00\x00\x00\x00\x00\x00\x00\x4b\x04\x00\x43\xbe\xb7\xe8\x01\x00\x00\x00", "\x00\x01a\x01\x00\x15\x00\x00\x00"},
		{"gzip, the zeros of its size behind the end", "\x02\x00\x01\x15\x02\x05\x05\x1f\x8b\x08\x00\x00\x00\x00\x00\x00\x00\x4b\x04\x00\x43\xbe\xb7\xe8\x01", "\x00\x01a\x01\x00\x15\x00\x00\x00"},
		{"raw by 255", "\xff\x00\x01\x0a\x01\x05" + helloStored, "\x00\x05hello\x0a\x00\x00\x00"},
	}
	for _, r := range rows {
		if got := checkScript(t, r.what, []byte(r.script)); string(got) != r.answer {
			t.Errorf("%s: % x, not % x", r.what, got, r.answer)
		}
	}
}

// scriptOf is the script of a text whose chunks, and whose dictionary, are short enough for one byte to tell.
func scriptOf(x *streamText, lens []int, sizes []byte) []byte {
	var short []byte
	for _, n := range lens {
		short = append(short, byte(n))
	}
	return byteScript(byte(x.format), x.dict, short, sizes, x.b)
}

// shortScripts are scripts of all short texts, each in one way of several.
func shortScripts() map[string][]byte {
	scripts := map[string][]byte{}
	for i, x := range shortTexts() {
		if len(x.dict) > 255 {
			continue
		}
		half := len(x.b) / 2
		lens := [][]int{{len(x.b)}, {half, 0, len(x.b) - half}, slices.Repeat([]int{1}, len(x.b))}[i%3]
		sizes := [][]byte{{1, 0, 255, 7, 7}, bytes.Repeat([]byte{255}, 9), {3, 3, 3, 3, 3, 3, 200, 200}}[i/3%3]
		scripts[x.what] = scriptOf(x, lens, sizes)
	}
	return scripts
}

func TestScriptsCutAtEveryByte(t *testing.T) {
	for what, script := range shortScripts() {
		for n := range len(script) + 1 {
			checkScript(t, what, script[:n])
		}
	}
}

func TestScriptsWithEveryFirstByte(t *testing.T) {
	for _, x := range shortTexts() {
		if len(x.dict) > 255 || len(x.all().out) > 1000 {
			continue
		}
		script := scriptOf(x, []int{len(x.b)}, []byte{2, 255, 255})
		right := checkScript(t, x.what, script)
		for first := range 256 {
			got := checkScript(t, x.what, changed(script, 0, byte(first)))
			if int64(first%3) == x.format && !bytes.Equal(got, right) {
				t.Errorf("%s: the first byte %d makes a difference", x.what, first)
			}
		}
	}
}

func TestScriptsWithBytesBehind(t *testing.T) {
	for what, script := range shortScripts() {
		want := impl.RunScript(script)
		for _, behind := range [][]byte{{0}, {255}, noiseText(151, 300), make([]byte, 65536-len(script))} {
			if got := impl.RunScript(slices.Concat(script, behind)); !bytes.Equal(got, want) {
				t.Errorf("%s: %d bytes behind make a difference", what, len(behind))
			}
		}
	}
}

// TestScriptsWithMostChunksAndReads has 0, 1, 254 and 255 of each, with lengths and sizes of 0, 1 and 255.
func TestScriptsWithMostChunksAndReads(t *testing.T) {
	text := noiseText(152, 65535)
	stored := plainStored(text, 65535)
	for _, chunks := range []int{0, 1, 254, 255} {
		for _, length := range []byte{0, 1, 255} {
			for _, reads := range []int{0, 1, 254, 255} {
				for _, size := range []byte{0, 1, 255} {
					lens, sizes := bytes.Repeat([]byte{length}, chunks), bytes.Repeat([]byte{size}, reads)
					script := byteScript(0, nil, lens, sizes, stored)
					checkScript(t, "many chunks and reads", script[:min(len(script), 65536)])
					checkScript(t, "many chunks and reads, a dictionary", byteScript(3, text[:255], lens, sizes, stored[:30000]))
				}
			}
		}
	}
	full := byteScript(0, nil, bytes.Repeat([]byte{255}, 255), bytes.Repeat([]byte{255}, 255), stored)
	got := checkScript(t, "as much as a script can say", full[:65536])
	// The first chunk tells 250 bytes, each other one 255; the last three bytes are not in the script.
	if len(got) != 255*257-5+4 || !bytes.Equal(got[:4], []byte{0, 250, text[0], text[1]}) || !bytes.Equal(got[len(got)-7:], []byte{0, 0, 0, 1, 254, 0, 0}) {
		t.Errorf("as much as a script can say: %d bytes, % x .. % x", len(got), got[:4], got[len(got)-7:])
	}
}

func TestScriptsOfEachLengthOfData(t *testing.T) {
	text := noiseText(153, 255)
	for n := range 250 {
		code := plainStored(text[:n], 65535)
		for _, size := range []byte{1, byte(n), byte(n + 1), 255} {
			checkScript(t, "each length", byteScript(0, nil, []byte{byte(len(code))}, []byte{size, size, size}, code))
		}
	}
	run := closedRun(600)
	got := checkScript(t, "the longest Data", byteScript(0, nil, []byte{byte(len(run))}, []byte{255, 255, 255, 255}, run))
	want := slices.Concat([]byte{0, 255}, bytes.Repeat([]byte("a"), 255), []byte{0, 255}, bytes.Repeat([]byte("a"), 255), []byte{0, 90}, bytes.Repeat([]byte("a"), 90), []byte{1, 0, byte(len(run)), 0, 0, 0})
	if !bytes.Equal(got, want) {
		t.Errorf("the longest Data: %d bytes, not %d, or others", len(got), len(want))
	}
}

func TestScriptsAtInMax(t *testing.T) {
	for _, begin := range [][]byte{nil, byteScript(0, nil, []byte{10}, []byte{9, 9}, []byte(helloStored)), {0, 0, 255}} {
		script := append(bytes.Clone(begin), make([]byte, 65536-len(begin))...)
		if got := checkScript(t, "InMax bytes", script); len(got) < 4 || !bytes.Equal(got, impl.RunScript(begin)) {
			t.Errorf("InMax bytes: %d in the answer", len(got))
		}
		for _, n := range []int{1, 2, 65536, 200000} {
			if got := checkScript(t, "above InMax", append(bytes.Clone(script), make([]byte, n)...)); len(got) != 0 {
				t.Errorf("InMax + %d bytes: %d in the answer", n, len(got))
			}
		}
	}
}

func TestScriptsOfNoise(t *testing.T) {
	g := &noise{154}
	for range 1500 {
		checkScript(t, "noise", noiseText(g.next(), int(g.below(900))))
	}
	texts := shortTexts()
	for range 1500 {
		x := texts[g.below(int64(len(texts)))]
		if len(x.dict) > 255 {
			continue
		}
		var sizes []byte
		for _, n := range noiseSizes(g) {
			sizes = append(sizes, byte(n))
		}
		script := scriptOf(x, noiseLens(g, len(x.b), 200), sizes)
		checkScript(t, x.what, script)
		script[g.below(int64(len(script)))] ^= 1 << g.below(8)
		checkScript(t, x.what+", one bit turned", script)
	}
}

// TestScriptsKeepTheirMemoryApart has scripts cut too: the zeros behind their ends must not be written there.
func TestScriptsKeepTheirMemoryApart(t *testing.T) {
	for what, whole := range shortScripts() {
		for _, n := range []int{len(whole), len(whole) - 1, len(whole) * 3 / 4, len(whole) / 2, 4, 3, 1, 0} {
			g := guard(whole[:min(n, len(whole))])
			want := plainScript(g.arg())
			checkApart(t, what, impl.RunScript(g.arg()), g.whole)
			g.check(t, what)
			if again := impl.RunScript(g.arg()); !bytes.Equal(again, want) {
				t.Errorf("%s: a second answer hangs on what became of the first", what)
			}
		}
	}
}
