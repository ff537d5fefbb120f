package machine_test

import (
	"bytes"

	"mummer/api"
	"mummer/flags"
)

// paper is the test's own reading of the chapter: a machine by plain numbers,
// whose memory is a row of bytes, and which takes nothing of the layers below
// but the sums of package flags.
type paper struct {
	mem   []byte
	s     api.State
	steps int
	notes []api.Note
	ledger
}

func newPaper(mem []byte, s api.State, script []api.Event, disk []byte) *paper {
	return &paper{mem: bytes.Clone(mem), s: s, ledger: ledger{script: append([]api.Event{}, script...), disk: bytes.Clone(disk)}}
}

// word is what stands at an address of the memory; false beyond its end.
func (p *paper) word(at uint64) (uint64, bool) {
	if at+4 > uint64(len(p.mem)) {
		return 0, false
	}
	return uint64(p.mem[at]) + uint64(p.mem[at+1])<<8 + uint64(p.mem[at+2])<<16 + uint64(p.mem[at+3])<<24, true
}

// path is where an address leads by the tables, the entry by which it does, and
// that entry's and the directory's.
func (p *paper) path(va uint64) (at, entry, low, high uint64, is bool) {
	if va/1024 >= 16 {
		return 0, 0, 0, 0, false
	}
	root := uint64(p.s.CR[0])
	high, is = p.word(root/64*64 + va/1024*4)
	if !is || high%2 == 0 {
		return 0, 0, 0, 0, false
	}
	entry = high/64*64 + va/64%16*4
	low, is = p.word(entry)
	if !is || low%2 == 0 {
		return 0, 0, 0, 0, false
	}
	at = low/64*64 + va%64
	return at, entry, low, high, at < uint64(len(p.mem))
}

// leads is where an access goes: kind is 1 to fetch, 2 to read, 3 to write.
func (p *paper) leads(va uint32, kind int) (uint64, bool) {
	if p.s.PS&4 == 0 {
		return uint64(va), uint64(va) < uint64(len(p.mem))
	}
	at, _, low, high, is := p.path(uint64(va))
	if !is {
		return 0, false
	}
	if p.s.PS&1 != 0 && low&high&4 == 0 {
		return 0, false
	}
	if kind == 3 && low&high&2 == 0 || kind != 1 && (low|high)&8 != 0 {
		return 0, false
	}
	return at, true
}

func (p *paper) deliver(cause int, addr uint32) api.Fault {
	back := p.s.PC
	if cause == 8 {
		back += 2
	}
	p.notes = append(p.notes, api.Note{At: p.steps, Cause: cause, Back: back, Addr: addr})
	p.s.CR[2], p.s.CR[3], p.s.CR[4], p.s.CR[5] = back, p.s.PS, uint32(cause), addr
	p.s.PS &^= 3
	p.s.PC = p.s.CR[1]
	p.steps++
	return api.Fault{Cause: cause, Addr: addr}
}

func (p *paper) comes() ([]api.Event, []int) { return p.come(p.steps, p.mem) }

func (p *paper) takes() bool {
	cause := p.wants(p.s.PS)
	if p.s.Halted || cause == 0 {
		return false
	}
	p.waits &^= []uint32{1, 2, 4}[cause-9]
	p.deliver(cause, 0)
	return true
}

func (p *paper) step() bool {
	if p.s.Halted {
		return false
	}
	p.comes()
	if !p.takes() {
		p.one()
	}
	return true
}

func (p *paper) run(n int) int {
	for k := range 4096 {
		if k >= n || !p.step() {
			return k
		}
	}
	return 4096
}

// length is how many bytes an operation has, by its number; 0 of none.
func length(op byte) int {
	switch {
	case op <= 3:
		return 1
	case op >= 0x10 && op <= 0x1f, op == 0x38, op == 0x39, op == 0x3a, op == 0x49, op == 0x4a, op == 0x50, op >= 0x60 && op <= 0x65:
		return 2
	case op == 0x21, op >= 0x30 && op <= 0x37, op >= 0x40 && op <= 0x48:
		return 3
	case op == 0x20:
		return 6
	}
	return 0
}

// refused says whether bytes of the right length are no instruction: bit 7 or 3
// of the registers' byte is set, or its lower half, where there is no second
// register.
func refused(b []byte) bool {
	switch op := b[0]; {
	case len(b) == 1, op == 0x50, op >= 0x40 && op <= 0x48:
		return false
	case op == 0x20, op == 0x21, op == 0x38, op == 0x39, op == 0x49, op == 0x4a, op == 0x60, op == 0x61:
		return b[1]&0x8f != 0
	}
	return b[1]&0x88 != 0
}

// one does the instruction at PC.
func (p *paper) one() api.Fault {
	if p.s.Halted {
		return api.Fault{}
	}
	var b []byte
	for size := 1; len(b) < size; {
		va := p.s.PC + uint32(len(b))
		at, is := p.leads(va, 1)
		if !is {
			return p.deliver(5, va)
		}
		b = append(b, p.mem[at])
		if size = length(b[0]); size == 0 {
			return p.deliver(1, p.s.PC)
		}
	}
	if refused(b) {
		return p.deliver(1, p.s.PC)
	}
	return p.does(append(b, 0, 0, 0, 0, 0))
}

// does goes on with the bytes of an instruction, and noughts behind them.
func (p *paper) does(b []byte) api.Fault {
	op, x, y := b[0], b[1]/16%8, b[1]%8
	next := p.s.PC + uint32(length(op))
	far := uint32(int32(int16(uint16(b[1]) + uint16(b[2])<<8)))
	r := &p.s.R
	switch {
	case op >= 1 && op <= 3 || op >= 0x60:
		return p.senses(op, x, y, next)
	case op >= 0x30 && op <= 0x3a:
		return p.moves(op, x, y, uint32(int32(int8(b[2]))), next)
	case op == 0x50:
		return p.deliver(8, uint32(b[1]))
	case (op == 0x19 || op == 0x1e) && r[y] == 0:
		return p.deliver(3, 0)
	case op >= 0x10 && op <= 0x1f:
		p.reckons(op, x, r[y])
	case op == 0x20:
		r[x] = uint32(b[2]) + uint32(b[3])<<8 + uint32(b[4])<<16 + uint32(b[5])<<24
	case op == 0x21:
		p.reckons(0x11, x, uint32(int32(int8(b[2]))))
	case op >= 0x40 && op <= 0x47 && flags.Holds(int(op-0x40), p.s.PS):
		next += far
	case op == 0x48:
		r[6] = next
		next += far
	case op == 0x49:
		next = r[x]
	case op == 0x4a:
		next, r[6] = r[x], next
	}
	p.s.PC = next
	p.steps++
	return api.Fault{}
}

func (p *paper) reckons(op, x byte, b uint32) {
	a := p.s.R[x]
	var c, f uint32
	switch op {
	case 0x10:
		p.s.R[x] = b
		return
	case 0x11:
		c, f = flags.Add(a, b)
	case 0x12, 0x1a:
		c, f = flags.Sub(a, b)
	case 0x13, 0x1f:
		c, f = flags.And(a, b)
	case 0x14:
		c, f = flags.Or(a, b)
	case 0x15:
		c, f = flags.Xor(a, b)
	case 0x16:
		c, f = flags.Shl(a, b)
	case 0x17:
		c, f = flags.Shr(a, b)
	case 0x18:
		c, f = flags.Mul(a, b)
	case 0x19:
		c, f, _ = flags.Div(a, b)
	case 0x1b:
		c, f = flags.Ror(a, b)
	case 0x1c:
		c, f = flags.Sar(a, b)
	case 0x1d:
		c, f = flags.Mulh(a, b)
	case 0x1e:
		c, f, _ = flags.Rem(a, b)
	}
	if op != 0x1a && op != 0x1f {
		p.s.R[x] = c
	}
	p.s.PS = p.s.PS&^0xf0 | f
}

// moves does what reads or writes memory.
func (p *paper) moves(op, x, y byte, off, next uint32) api.Fault {
	size := []int{4, 4, 1, 1, 2, 2, 1, 2, 4, 4, 4}[op-0x30]
	writes := []bool{false, true, false, true, false, true, false, false, true, false, true}[op-0x30]
	va := p.s.R[y] + off
	switch op {
	case 0x38:
		va = p.s.R[7] - 4
	case 0x39:
		va = p.s.R[7]
	}
	if va%uint32(size) != 0 {
		return p.deliver(4, va)
	}
	kind := 2
	if writes {
		kind = 3
	}
	at, is := p.leads(va, kind)
	if !is {
		return p.deliver(4+kind, va)
	}
	var v, value uint32
	for k := range size {
		v += uint32(p.mem[at+uint64(k)]) << (8 * k)
	}
	value = p.s.R[x]
	if writes && p.s.PS&4 != 0 {
		_, entry, _, _, _ := p.path(uint64(va))
		p.mem[entry] |= 16
	}
	for k := range size {
		if writes {
			p.mem[at+uint64(k)] = byte(value >> (8 * k))
		}
	}
	p.loads(op, x, v)
	p.s.PC = next
	p.steps++
	return api.Fault{}
}

// loads is what memory instructions leave in registers.
func (p *paper) loads(op, x byte, v uint32) {
	r := &p.s.R
	switch op {
	case 0x30, 0x32, 0x34, 0x3a:
		r[x] = v
	case 0x36:
		r[x] = uint32(int32(int8(v)))
	case 0x37:
		r[x] = uint32(int32(int16(v)))
	case 0x38:
		r[7] -= 4
	case 0x39:
		r[7] += 4
		r[x] = v
	}
}

// senses does the nine that see or turn what the machine is in.
func (p *paper) senses(op, x, y byte, next uint32) api.Fault {
	user := p.s.PS&1 != 0
	if user && (op == 1 || op == 0x63 || op == 0x64 || op == 0x65) {
		return p.deliver(2, 0)
	}
	r := &p.s.R
	switch op {
	case 1:
		p.s.Halted = true
	case 2:
		if !user {
			next, p.s.PS = p.s.CR[2], p.s.CR[3]&0xf7
		}
	case 0x60:
		r[x] = p.s.PS
	case 0x61:
		turned := uint32(0xf7)
		if user {
			turned = 0xf0
			p.s.PS = p.s.PS&^turned | r[x]&turned
		} else {
			p.s.PS = r[x] & turned
		}
	case 0x62:
		r[x] = p.s.CR[y]
		if user {
			r[x] = 0
		}
	case 0x63:
		p.s.CR[y] = r[x]
	case 0x64:
		r[x] = p.take(uint32(y))
	case 0x65:
		p.put(uint32(y), r[x])
	}
	p.s.PC = next
	p.steps++
	return api.Fault{}
}

func (p *paper) save() api.Saved {
	x := p.ledger.save()
	x.Frames, x.Mem, x.S, x.Steps, x.Notes = len(p.mem)/64, p.mem, p.s, p.steps, p.notes
	return x
}
