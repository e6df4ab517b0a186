package impl

import "sync"

const (
	AdlerBase = 65521
	JoinMax   = 1000000
)

const (
	// partBytes is how long a text may be before it is cut into parts of this length; no part may be above JoinMax, or it could not be joined.
	partBytes = 1 << 16
	// adlerBytes is how many bytes 255 can be added, from halves of 65520, before the upper half leaves 32 bits: the modulus can wait so long.
	adlerBytes = 5552
	// crcShort is the length from which making the tables pays.
	crcShort = 512
	// crcPoly is the polynomial with its bits turned round: the highest bit stands for x^0.
	crcPoly = 0xedb88320
	crcOne  = 1 << 31
	crcByte = crcOne >> 8
)

func AdlerUpdate(a uint32, b []byte) uint32 {
	if len(b) <= partBytes {
		return adlerSum(a, b)
	}
	parts := cutParts(b)
	for i, sum := range sumParts(parts, adlerOfText) {
		a = AdlerJoin(a, sum, int64(len(parts[i])))
	}
	return a
}

func CrcUpdate(c uint32, b []byte) uint32 {
	if len(b) < crcShort {
		return crcBitwise(c, b)
	}
	tables := makeCrcTables()
	if len(b) <= partBytes {
		return tables.sum(c, b)
	}
	parts := cutParts(b)
	for i, sum := range sumParts(parts, tables.sumOfText) {
		c = CrcJoin(c, sum, int64(len(parts[i])))
	}
	return c
}

func AdlerJoin(a uint32, b uint32, n int64) uint32 {
	if n < 0 || n > JoinMax {
		return 0
	}
	a1, a2 := adlerHalves(a)
	b1, b2 := adlerHalves(b)
	low := intoBase(int64(a1) + int64(b1) - 1)
	high := intoBase(int64(a2) + int64(b2) + n*(int64(a1)-1))
	return high<<16 | low
}

// CrcJoin takes a through the zero bytes in one multiplication: a step of the rule is a product with x, so 8*n of them are one with x^(8*n).
func CrcJoin(a uint32, b uint32, n int64) uint32 {
	if n < 0 || n > JoinMax {
		return 0
	}
	return crcTimes(crcPowerOfByte(n), a) ^ b
}

// cutParts gives views of the text: they are only read.
func cutParts(b []byte) [][]byte {
	var parts [][]byte
	for len(b) > partBytes {
		parts = append(parts, b[:partBytes])
		b = b[partBytes:]
	}
	return append(parts, b)
}

// sumParts sums each part in a goroutine of its own, which writes into its own place alone: no schedule can change the answer.
func sumParts(parts [][]byte, sumOf func([]byte) uint32) []uint32 {
	sums := make([]uint32, len(parts))
	var all sync.WaitGroup
	for i, part := range parts {
		all.Add(1)
		go func() {
			defer all.Done()
			sums[i] = sumOf(part)
		}()
	}
	all.Wait()
	return sums
}

func adlerHalves(a uint32) (uint32, uint32) {
	return a % 65536 % AdlerBase, a / 65536 % AdlerBase
}

// intoBase adds the base once more because the remainder of a negative number is negative.
func intoBase(x int64) uint32 {
	return uint32((x%AdlerBase + AdlerBase) % AdlerBase)
}

func adlerOfText(b []byte) uint32 {
	return adlerSum(1, b)
}

func adlerSum(a uint32, b []byte) uint32 {
	s1, s2 := adlerHalves(a)
	for len(b) > 0 {
		run := b[:min(len(b), adlerBytes)]
		for _, x := range run {
			s1 += uint32(x)
			s2 += s1
		}
		s1 %= AdlerBase
		s2 %= AdlerBase
		b = b[len(run):]
	}
	return s2<<16 | s1
}

func crcStep(c uint32) uint32 {
	if c&1 == 1 {
		return c>>1 ^ crcPoly
	}
	return c >> 1
}

func crcBitwise(c uint32, b []byte) uint32 {
	c = ^c
	for _, x := range b {
		c = crcZeroByte(c ^ uint32(x))
	}
	return ^c
}

func crcZeroByte(c uint32) uint32 {
	for range 8 {
		c = crcStep(c)
	}
	return c
}

// crcTimes is the product of two polynomials modulo that of the CRC.
func crcTimes(a uint32, b uint32) uint32 {
	product := uint32(0)
	for bit := uint32(crcOne); bit != 0; bit >>= 1 {
		if a&bit != 0 {
			product ^= b
		}
		b = crcStep(b)
	}
	return product
}

// crcPowerOfByte is x^(8*n), by squaring: a join of long parts must cost less than summing them.
func crcPowerOfByte(n int64) uint32 {
	power, square := uint32(crcOne), uint32(crcByte)
	for ; n > 0; n >>= 1 {
		if n&1 == 1 {
			power = crcTimes(power, square)
		}
		square = crcTimes(square, square)
	}
	return power
}

// crcTables: row k of a byte is that byte taken through k more zero bytes, so that eight bytes are summed in one step.
type crcTables [8][256]uint32

func makeCrcTables() *crcTables {
	var t crcTables
	for x := range t[0] {
		t[0][x] = crcZeroByte(uint32(x))
	}
	for k := 1; k < len(t); k++ {
		for x, c := range t[k-1] {
			t[k][x] = c>>8 ^ t[0][c&255]
		}
	}
	return &t
}

func (t *crcTables) sumOfText(b []byte) uint32 {
	return t.sum(0, b)
}

func (t *crcTables) sum(c uint32, b []byte) uint32 {
	c = ^c
	for len(b) >= 8 {
		c ^= uint32(b[0]) | uint32(b[1])<<8 | uint32(b[2])<<16 | uint32(b[3])<<24
		c = t[7][c&255] ^ t[6][c>>8&255] ^ t[5][c>>16&255] ^ t[4][c>>24] ^
			t[3][b[4]] ^ t[2][b[5]] ^ t[1][b[6]] ^ t[0][b[7]]
		b = b[8:]
	}
	for _, x := range b {
		c = c>>8 ^ t[0][c&255^uint32(x)]
	}
	return ^c
}
