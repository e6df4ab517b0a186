package tests

import (
	"bytes"
	"encoding/binary"

	"loop.example/s02972/impl"
)

func (r *plainInflater) highFirst() uint32 {
	val := uint32(0)
	for range 4 {
		val = val<<8 | uint32(r.num(8))
	}
	return val
}

// zlib reads chapter 6 word by word.
func (r *plainInflater) zlib(dict []byte) {
	c := r.num(8)
	f := r.num(8)
	failIf((256*c+f)%31 != 0)
	failIf(c%16 != 8)
	failIf(c/16 > 7)
	r.size = []int64{256, 512, 1024, 2048, 4096, 8192, 16384, 32768}[c/16]
	if f/32%2 == 1 {
		sum := r.highFirst()
		failAs(impl.ClassDict, len(dict) == 0)
		failAs(impl.ClassDict, sum != plainAdler(1, dict))
		r.told, r.dict = bytes.Clone(dict), len(dict)
	}
	r.blocks()
	r.align()
	failAs(impl.ClassSum, r.highFirst() != plainAdler(1, r.out()))
}

// plainZlib also tells how many bits were read, whatever the class.
func plainZlib(b []byte, dict []byte) (impl.ZlibRes, int64) {
	if len(b) > 65536 {
		return impl.ZlibRes{Class: impl.ClassLong}, 0
	}
	r := &plainInflater{b: b}
	res := impl.ZlibRes{Class: r.class(func() { r.zlib(dict) })}
	res.Out = r.out()
	if res.Class == impl.ClassEnd {
		res.Used = r.at / 8
	}
	return res, r.at
}

func (r *plainInflater) upToZero() []byte {
	var text []byte
	for {
		x := r.num(8)
		if x == 0 {
			return text
		}
		text = append(text, byte(x))
	}
}

func (r *plainInflater) memberHead() impl.Member {
	begin := r.at / 8
	failIf(r.num(8) != 31)
	failIf(r.num(8) != 139)
	failIf(r.num(8) != 8)
	m := impl.Member{Flags: r.num(8)}
	failIf(m.Flags/32 != 0)
	m.Mtime = r.num(32)
	m.Xfl = r.num(8)
	m.Os = r.num(8)
	if m.Flags&4 != 0 {
		for range r.num(16) {
			m.Extra = append(m.Extra, byte(r.num(8)))
		}
	}
	if m.Flags&8 != 0 {
		m.Name = r.upToZero()
	}
	if m.Flags&16 != 0 {
		m.Comment = r.upToZero()
	}
	if m.Flags&2 != 0 {
		head := r.b[begin : r.at/8]
		failAs(impl.ClassSum, r.num(16) != int64(plainCrc(0, head)%65536))
	}
	return m
}

func (r *plainInflater) member() impl.Member {
	r.before, r.told = append(r.before, r.told...), nil
	m := r.memberHead()
	r.blocks()
	r.align()
	failAs(impl.ClassSum, r.num(32) != int64(plainCrc(0, r.told)))
	m.Size = int64(len(r.told))
	failAs(impl.ClassSum, r.num(32) != m.Size)
	return m
}

func plainGzip(b []byte) impl.GzipRes {
	if len(b) > 65536 {
		return impl.GzipRes{Class: impl.ClassLong}
	}
	var res impl.GzipRes
	r := &plainInflater{b: b, size: 32768}
	res.Class = r.class(func() {
		for len(res.Members) == 0 || r.at < 8*int64(len(b)) {
			res.Members = append(res.Members, r.member())
		}
	})
	res.Out = append(r.before, r.told...)
	if res.Class == impl.ClassEnd {
		res.Used = int64(len(b))
	}
	return res
}

// zlibHead looks for the second byte instead of working it out.
func zlibHead(info int64, dict []byte) []byte {
	c, f := 16*info+8, int64(0)
	if len(dict) > 0 {
		f = 32
	}
	for (256*c+f)%31 != 0 {
		f++
	}
	head := []byte{byte(c), byte(f)}
	if len(dict) > 0 {
		head = binary.BigEndian.AppendUint32(head, plainAdler(1, dict))
	}
	return head
}

// zlibOf has any stream, and the sum of what it is said to tell.
func zlibOf(info int64, dict, stream, out []byte) []byte {
	return binary.BigEndian.AppendUint32(append(zlibHead(info, dict), stream...), plainAdler(1, out))
}

// gzipHead writes a member's head as it is, right or wrong.
func gzipHead(m impl.Member) []byte {
	head := []byte{31, 139, 8, byte(m.Flags)}
	head = binary.LittleEndian.AppendUint32(head, uint32(m.Mtime))
	head = append(head, byte(m.Xfl), byte(m.Os))
	if m.Flags&4 != 0 {
		head = append(binary.LittleEndian.AppendUint16(head, uint16(len(m.Extra))), m.Extra...)
	}
	if m.Flags&8 != 0 {
		head = append(append(head, m.Name...), 0)
	}
	if m.Flags&16 != 0 {
		head = append(append(head, m.Comment...), 0)
	}
	if m.Flags&2 != 0 {
		head = binary.LittleEndian.AppendUint16(head, uint16(plainCrc(0, head)))
	}
	return head
}

func gzipOf(m impl.Member, stream, out []byte) []byte {
	code := append(gzipHead(m), stream...)
	code = binary.LittleEndian.AppendUint32(code, plainCrc(0, out))
	return binary.LittleEndian.AppendUint32(code, uint32(len(out)))
}

// plainFixed is the data in one fixed block.
func plainFixed(data []byte) []byte {
	w, c := fixedBlock(1)
	return w.text(c, data).lit(c, 256).b
}
