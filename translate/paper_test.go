package translate_test

import "mummer/api"

// The test's own reading of the chapter, by plain numbers; it takes nothing of
// the layers below.

// shape is what an instruction's bytes are made of behind its operation: how
// many registers it has, and how many bytes its number, from low to high.
type shape struct {
	registers, number int
	low, high         int64
}

// shapeOf is the shape of a guest's operation; false of what is none.
func shapeOf(op byte) (shape, bool) {
	switch {
	case op <= 0x03:
		return shape{}, true
	case op >= 0x10 && op <= 0x1f, op == 0x3a, op >= 0x62 && op <= 0x65:
		return shape{registers: 2}, true
	case op == 0x20:
		return shape{1, 4, -1 << 31, 1<<31 - 1}, true
	case op == 0x21:
		return shape{1, 1, -128, 127}, true
	case op >= 0x30 && op <= 0x37:
		return shape{2, 1, -128, 127}, true
	case op == 0x38, op == 0x39, op == 0x49, op == 0x4a, op == 0x60, op == 0x61:
		return shape{registers: 1}, true
	case op >= 0x40 && op <= 0x48:
		return shape{0, 2, -32768, 32767}, true
	case op == 0x50:
		return shape{0, 1, 0, 255}, true
	}
	return shape{}, false
}

// ending is the End of a block whose last instruction has this operation.
func ending(op byte) int {
	switch op {
	case 0x40, 0x48:
		return 2
	case 0x41, 0x42, 0x43, 0x44, 0x45, 0x46, 0x47:
		return 3
	case 0x01, 0x02, 0x03, 0x49, 0x4a, 0x50, 0x60, 0x61, 0x62, 0x63, 0x64, 0x65:
		return 4
	}
	return 1
}

// paperIns says whether an instruction may be.
func paperIns(i api.Ins) bool {
	s, is := shapeOf(i.Op)
	return is && (s.registers >= 1 && i.A <= 7 || i.A == 0) && (s.registers == 2 && i.B <= 7 || i.B == 0) && s.low <= int64(i.Imm) && int64(i.Imm) <= s.high
}

// paperMay says whether a block may be.
func paperMay(b api.Block) bool {
	if len(b.Ins) < 1 || len(b.Ins) > 32 || len(b.Ins) != len(b.At) {
		return false
	}
	for k, i := range b.Ins {
		if !paperIns(i) || k < len(b.Ins)-1 && ending(i.Op) != 1 {
			return false
		}
	}
	return b.End == ending(b.Ins[len(b.Ins)-1].Op)
}

// paperBytes is an instruction's bytes.
func paperBytes(i api.Ins) []byte {
	s, _ := shapeOf(i.Op)
	b := []byte{i.Op}
	if s.registers > 0 {
		b = append(b, 16*i.A+i.B)
	}
	left := uint64(int64(i.Imm))
	for range s.number {
		b = append(b, byte(left%256))
		left /= 256
	}
	return b
}

// paperStub is a stub's bytes and rows, where it begins at off.
func paperStub(off, n, exit int, place uint32) ([]byte, []api.Row) {
	return []byte{0x70, byte(n), 0x71, byte(exit % 256), byte(exit / 256)},
		[]api.Row{{Off: off, PC: place, Done: n, Exit: -1}, {Off: off + 2, PC: place, Done: 0, Exit: exit}}
}

// paperCode is the code of a block that may be, piece by piece as the chapter
// lists them.
func paperCode(b api.Block, first int) api.Code {
	var c api.Code
	piece := func(b []byte, r ...api.Row) {
		c.Bytes = append(c.Bytes, b...)
		c.Rows = append(c.Rows, r...)
	}
	n := len(b.Ins)
	for k, i := range b.Ins {
		row := api.Row{Off: len(c.Bytes), PC: b.At[k], Done: k, Exit: -1}
		switch {
		case ending(i.Op) == 1:
			piece(paperBytes(i), row)
		case i.Op == 0x48:
			piece([]byte{0x20, 0x60, byte(b.Next), byte(b.Next >> 8), byte(b.Next >> 16), byte(b.Next >> 24)}, row)
		case ending(i.Op) == 3:
			piece([]byte{i.Op, 5, 0}, row)
		}
	}
	leave := func(n, exit int, place uint32) {
		b, rows := paperStub(len(c.Bytes), n, exit, place)
		piece(b, rows...)
	}
	switch b.End {
	case 1:
		leave(n, first, b.Next)
	case 2:
		leave(n, first, b.To)
	case 3:
		leave(n, first, b.Next)
		leave(n, first+1, b.To)
	case 4:
		leave(n-1, first, b.At[n-1])
	}
	return c
}
