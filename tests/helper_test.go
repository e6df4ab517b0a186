package tests

import (
	"bytes"
	"testing"
)

// noise gives the same numbers in every run.
type noise struct {
	state uint64
}

func (g *noise) next() uint64 {
	g.state = g.state*6364136223846793005 + 1442695040888963407
	return g.state >> 33
}

func (g *noise) below(n int64) int64 {
	return int64(g.next() % uint64(n))
}

func noiseText(seed uint64, n int) []byte {
	g := noise{seed}
	text := make([]byte, n)
	for i := range text {
		text[i] = byte(g.next())
	}
	return text
}

// guarded is an argument with room behind it, where an append in place would be seen.
type guarded struct {
	whole  []byte
	before []byte
	length int
}

func guard(b []byte) *guarded {
	whole := append(append([]byte{}, b...), bytes.Repeat([]byte{0xa7}, 64)...)
	return &guarded{whole: whole, before: bytes.Clone(whole), length: len(b)}
}

func (g *guarded) arg() []byte {
	return g.whole[:g.length]
}

func (g *guarded) check(t *testing.T, what string) {
	t.Helper()
	if !bytes.Equal(g.whole, g.before) {
		t.Errorf("%s: an argument was written into", what)
	}
}

// checkApart overwrites one list to the end of its room and looks whether another one changes.
func checkApart(t *testing.T, what string, written []byte, others ...[]byte) {
	t.Helper()
	var before [][]byte
	for _, o := range others {
		before = append(before, bytes.Clone(o[:cap(o)]))
	}
	written = written[:cap(written)]
	for i := range written {
		written[i] = ^written[i]
	}
	for i, o := range others {
		if !bytes.Equal(o[:cap(o)], before[i]) {
			t.Errorf("%s: shares memory with list %d", what, i)
		}
	}
}
