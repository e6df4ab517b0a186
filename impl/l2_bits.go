package impl

const (
	TakeMax = 32
	HeldMax = 1000000
)

// usedMax is the most bits that a reader may have taken.
const usedMax = 8 << 32

type Bits struct {
	Held []byte
	At   int64
	Used int64
}

type BitRes struct {
	Ok   bool
	Val  uint64
	Bits Bits
}

type ByteRes struct {
	Ok   bool
	Data []byte
	Bits Bits
}

func ValidBits(r Bits) bool {
	if r.At < 0 || r.At > 7 || r.At != 0 && len(r.Held) == 0 {
		return false
	}
	return len(r.Held) <= HeldMax && r.Used >= 0 && r.Used <= usedMax && r.Used%8 == r.At
}

func BitsFeed(r Bits, chunk []byte) Bits {
	if !ValidBits(r) {
		return Bits{}
	}
	reader := bitReader{openSource(r)}
	reader.feed(chunk)
	return reader.state()
}

func BitsTake(r Bits, n int64) BitRes {
	if !ValidBits(r) {
		return BitRes{}
	}
	reader := bitReader{openSource(r)}
	val, ok := reader.take(n)
	return BitRes{Ok: ok, Val: val, Bits: reader.state()}
}

func BitsAlign(r Bits) Bits {
	if !ValidBits(r) {
		return Bits{}
	}
	reader := bitReader{openSource(r)}
	reader.align()
	return reader.state()
}

func BitsBytes(r Bits, n int64) ByteRes {
	if !ValidBits(r) {
		return ByteRes{}
	}
	reader := byteReader{openSource(r)}
	data, ok := reader.bytes(n)
	return ByteRes{Ok: ok, Data: data, Bits: reader.state()}
}

// source is where chunks go in. It owns its bytes, so that it may add to them in place.
type source struct {
	held []byte
	at   int64
	used int64
}

// bitReader and byteReader embed the source by its address, so that both can read from the same one.
type bitReader struct {
	*source
}

type byteReader struct {
	*source
}

func openSource(r Bits) *source {
	return &source{held: copyBytes(r.Held), at: r.At, used: r.Used}
}

// state gives the source's own bytes away: the source is not used after it.
func (s *source) state() Bits {
	return Bits{Held: s.held, At: s.at, Used: s.used}
}

func (s *source) feed(chunk []byte) {
	if len(s.held)+len(chunk) <= HeldMax {
		s.held = append(s.held, chunk...)
	}
}

// has tells whether n bits can be taken; a source that has taken all it may is as one without bits.
func (s *source) has(n int64) bool {
	return n <= 8*int64(len(s.held))-s.at && n <= usedMax-s.used
}

// pass goes on behind n bits, which the caller has found to be there.
func (s *source) pass(n int64) {
	end := s.at + n
	s.held = s.held[end/8:]
	s.at = end % 8
	s.used += n
}

func (r bitReader) take(n int64) (uint64, bool) {
	if n < 0 || n > TakeMax || !r.has(n) {
		return 0, false
	}
	val := r.peek(n)
	r.pass(n)
	return val, true
}

// peek needs five bytes at the most: 7 bits passed over and TakeMax more are 39.
func (r bitReader) peek(n int64) uint64 {
	word := uint64(0)
	for i, x := range r.held[:min(len(r.held), 5)] {
		word |= uint64(x) << (8 * i)
	}
	return word >> r.at & (1<<n - 1)
}

func (r bitReader) align() {
	if rest := (8 - r.at) % 8; r.has(rest) {
		r.pass(rest)
	}
}

// bytes asks for n against the bytes held first: 8*n might not be a number otherwise.
func (r byteReader) bytes(n int64) ([]byte, bool) {
	if r.at != 0 || n < 0 || n > int64(len(r.held)) || !r.has(8*n) {
		return nil, false
	}
	data := copyBytes(r.held[:n])
	r.pass(8 * n)
	return data, true
}

// copyBytes begins from nil: an empty list must not keep the address of another's memory either.
func copyBytes(b []byte) []byte {
	return append([]byte(nil), b...)
}
