package scan_test

import (
	"slices"

	"mummer/api"
)

// paper is the test's own reading of the chapter, by plain numbers over a row
// of bytes; it takes nothing of the layers below.
type paper struct {
	mem []byte
	s   api.State
}

// word is what stands at an address of the memory; false beyond its end.
func (p paper) word(at uint64) (uint64, bool) {
	at %= 1 << 32
	if at+4 > uint64(len(p.mem)) {
		return 0, false
	}
	return uint64(p.mem[at]) + uint64(p.mem[at+1])<<8 + uint64(p.mem[at+2])<<16 + uint64(p.mem[at+3])<<24, true
}

// found is a byte that was asked for: whether it may be fetched, its value, its
// frame, and the frames in which the entries lie by which it is found. Looked is
// all frames on which that hangs.
type found struct {
	is     bool
	value  byte
	frame  int
	tables []int
	looked []int
}

// fetched is the byte at an address.
func (p paper) fetched(va uint64) found {
	if p.s.PS/4%2 == 0 {
		if va >= uint64(len(p.mem)) {
			return found{}
		}
		return found{is: true, value: p.mem[va], frame: int(va / 64), looked: []int{int(va / 64)}}
	}
	if va/1024 > 15 {
		return found{}
	}
	dirAt := uint64(p.s.CR[0])/64*64 + va/1024*4
	dir, is := p.word(dirAt)
	if !is {
		return found{}
	}
	f := found{looked: []int{int(dirAt % (1 << 32) / 64)}}
	tableAt := dir/64*64 + va/64%16*4
	table, is := p.word(tableAt)
	if dir%2 == 0 || !is {
		return f
	}
	f.looked = append(f.looked, int(tableAt/64))
	at := table/64*64 + va%64
	if table%2 == 0 || at >= uint64(len(p.mem)) || p.s.PS%2 == 1 && dir&table&4 == 0 {
		return f
	}
	f.tables = slices.Clone(f.looked)
	f.looked = append(f.looked, int(at/64))
	f.is, f.value, f.frame = true, p.mem[at], int(at/64)
	return f
}

// length is how many bytes an operation of a guest's has, by its number; 0 of
// none.
func length(op byte) uint64 {
	switch {
	case op <= 3:
		return 1
	case op >= 0x10 && op <= 0x1f, op >= 0x38 && op <= 0x3a, op == 0x49, op == 0x4a, op == 0x50, op >= 0x60 && op <= 0x65:
		return 2
	case op == 0x21, op >= 0x30 && op <= 0x37, op >= 0x40 && op <= 0x48:
		return 3
	case op == 0x20:
		return 6
	}
	return 0
}

// refused says whether bytes of the right length are no instruction: bit 7 or 3
// of the registers' byte is set, or its lower half, where there is no second
// register.
func refused(b []byte) bool {
	switch op := b[0]; {
	case len(b) == 1, op == 0x50, op >= 0x40 && op <= 0x48:
		return false
	case op == 0x20, op == 0x21, op == 0x38, op == 0x39, op == 0x49, op == 0x4a, op == 0x60, op == 0x61:
		return b[1]&0x8f != 0
	}
	return b[1]&0x88 != 0
}

// instruction is what bytes of the right length say.
func instruction(b []byte) api.Ins {
	i := api.Ins{Op: b[0]}
	if len(b) == 1 {
		return i
	}
	switch op := b[0]; {
	case op == 0x50:
		i.Imm = int32(b[1])
		return i
	case op >= 0x40 && op <= 0x48:
		i.Imm = int32(int16(uint16(b[1]) + uint16(b[2])*256))
		return i
	}
	i.A, i.B = b[1]/16, b[1]%16
	switch len(b) {
	case 3:
		i.Imm = int32(int8(b[2]))
	case 6:
		i.Imm = int32(uint32(b[2]) + uint32(b[3])<<8 + uint32(b[4])<<16 + uint32(b[5])<<24)
	}
	return i
}

// ending is the End of a block with such a last operation.
func ending(op byte) int {
	switch {
	case op == 0x40, op == 0x48:
		return 2
	case op > 0x40 && op < 0x48:
		return 3
	case op >= 1 && op <= 3, op == 0x49, op == 0x4a, op >= 0x50:
		return 4
	}
	return 1
}

// reading is a block or a fault, and what it was found by.
type reading struct {
	api.Block
	api.Fault
	full   bool  // it ended ahead of an instruction that would lie on a third page
	beyond []int // where it went no further: the frames on which that hangs
}

// scan goes through a block. As no jump is followed, a block's pages lie behind
// one another, so that its last byte's page tells how many there are.
func (p paper) scan(most int) reading {
	var x reading
	var frames, tables []int
	first, place := uint64(p.s.PC)/64, uint64(p.s.PC)
	x.End, x.Next = 1, p.s.PC
	for len(x.Ins) == 0 || len(x.Ins) < most && len(x.Ins) < 32 {
		b, all, fault := p.instructionAt(place)
		if size := max(uint64(len(b)), 1); (place+size-1)/64 > first+1 {
			x.full = true
			break
		}
		if fault.Cause != 0 {
			for _, f := range all {
				x.beyond = append(x.beyond, f.looked...)
			}
			if len(x.Ins) == 0 {
				return reading{Fault: fault, beyond: x.beyond}
			}
			break
		}
		x.Ins, x.At = append(x.Ins, instruction(b)), append(x.At, uint32(place))
		for _, f := range all {
			frames, tables = append(frames, f.frame), append(tables, f.tables...)
		}
		place += uint64(len(b))
		x.Next, x.End = uint32(place), ending(b[0])
		if x.End == 2 || x.End == 3 {
			x.To = x.Next + uint32(x.Ins[len(x.Ins)-1].Imm)
		}
		if x.End != 1 {
			break
		}
	}
	x.Frames, x.Tables = once(frames), once(tables)
	return x
}

// instructionAt is an instruction's bytes, as many as it would have (of a fault
// too, where that is known), and all that was asked for.
func (p paper) instructionAt(place uint64) ([]byte, []found, api.Fault) {
	op := p.fetched(place)
	all := []found{op}
	if !op.is {
		return nil, all, api.Fault{Cause: 5, Addr: uint32(place)}
	}
	b := make([]byte, length(op.value))
	if len(b) == 0 {
		return nil, all, api.Fault{Cause: 1, Addr: uint32(place)}
	}
	b[0] = op.value
	for k := 1; k < len(b); k++ {
		here := (place + uint64(k)) % (1 << 32)
		f := p.fetched(here)
		all = append(all, f)
		if !f.is {
			return b, all, api.Fault{Cause: 5, Addr: uint32(here)}
		}
		b[k] = f.value
	}
	if refused(b) {
		return b, all, api.Fault{Cause: 1, Addr: uint32(place)}
	}
	return b, all, api.Fault{}
}

// once is the numbers of a list, rising, each once: those that are in it, of all
// that may be.
func once(list []int) []int {
	var answer []int
	for n := range 512 {
		if slices.Contains(list, n) {
			answer = append(answer, n)
		}
	}
	return answer
}
