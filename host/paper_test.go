package host_test

import (
	"slices"

	"mummer/api"
	"mummer/core"
	"mummer/isa"
	"mummer/kind"
	"mummer/sense"
)

// trod is a way that was gone: the page, the bits that it had, where it led.
type trod struct{ page, bits, at uint64 }

// paper is the test's own reading of the chapter: a memory that is a row of
// bytes, ways by plain numbers, and no slots at all, but all ways that were
// gone since the last flush, which are asked from the last one back. Of the
// layers below it takes what instructions do to a state.
type paper struct {
	mem          []byte
	s            api.State
	slots        uint64
	trod         []trod
	on           bool
	limit, count int
	touched      []int
	stale, lone  int // ways that the tables did not say any more; writes that soiled nothing for want of a way
}

// word is what stands at an address of the memory; false beyond its end.
func (p *paper) word(at uint64) (uint64, bool) {
	at %= 1 << 32
	if at+4 > uint64(len(p.mem)) {
		return 0, false
	}
	return uint64(p.mem[at]) + uint64(p.mem[at+1])<<8 + uint64(p.mem[at+2])<<16 + uint64(p.mem[at+3])<<24, true
}

// path is the way of an address by the tables now, and the table's entry.
func (p *paper) path(va uint32) (way trod, entry uint64, is bool) {
	v := uint64(va)
	if v/1024 >= 32 {
		return trod{}, 0, false
	}
	high, is := p.word(uint64(p.s.CR[0])/64*64 + v/1024*4)
	if !is || high%2 == 0 {
		return trod{}, 0, false
	}
	entry = high/64*64 + v/64%16*4
	low, is := p.word(entry)
	if !is || low%2 == 0 || low/64*64 >= uint64(len(p.mem)) {
		return trod{}, 0, false
	}
	return trod{v / 64, low&high&7 | (low|high)&8, low / 64 * 64}, entry, true
}

// leads is where an access goes: kind is 1 to fetch, 2 to read, 3 to write.
func (p *paper) leads(va uint32, kind int) (uint64, bool) {
	way, _, is := p.path(va)
	page := uint64(va) / 64
	known := false
	for _, t := range slices.Backward(p.trod) {
		if t.page%p.slots == page%p.slots {
			if known = t.page == page; known {
				if !is || t != way {
					p.stale++
				}
				way = t
			}
			break
		}
	}
	if !known {
		if !is {
			return 0, false
		}
		p.trod = append(p.trod, way)
	}
	need, without := []uint64{0, 5, 5, 7}[kind], []uint64{0, 0, 8, 8}[kind]
	return way.at + uint64(va)%64, way.bits&need == need && way.bits&without == 0
}

func faulted(cause int, addr uint32) api.Exit { return api.Exit{Kind: 2, Cause: cause, Addr: addr} }

// run is Run.
func (p *paper) run(n int) api.Exit {
	for k := range min(max(n, 0), 4096) {
		if x := p.one(); x.Kind != 0 {
			x.N = k
			if x.Kind == 5 {
				x.N++
			}
			return x
		}
	}
	return api.Exit{Kind: 1, N: min(max(n, 0), 4096)}
}

// fetched is the bytes of the instruction at PC, or a fault.
func (p *paper) fetched() ([]byte, api.Exit) {
	var b []byte
	for size := 1; len(b) < size; {
		va := p.s.PC + uint32(len(b))
		at, is := p.leads(va, 1)
		if !is {
			return nil, faulted(5, va)
		}
		b = append(b, p.mem[at])
		if size = isa.Size(b[0], p.on); size == 0 {
			return nil, faulted(1, p.s.PC)
		}
	}
	if _, n, e := isa.Decode(b, p.on); e != 0 || n != len(b) {
		return nil, faulted(1, p.s.PC)
	}
	return b, api.Exit{}
}

// one does the instruction at PC; the kind is 0, if the run goes on.
func (p *paper) one() api.Exit {
	b, x := p.fetched()
	if x.Kind != 0 {
		return x
	}
	i, _, _ := isa.Decode(b, true)
	switch op := b[0]; {
	case op == 0x71:
		return api.Exit{Kind: 4, Addr: uint32(b[1]) + uint32(b[2])<<8}
	case op == 0x50:
		return api.Exit{Kind: 3, Addr: uint32(b[1])}
	case op == 0x70:
		p.s.PC += 2
		p.count += int(b[1])
		if p.count >= p.limit {
			return api.Exit{Kind: 5}
		}
		return api.Exit{}
	case kind.New().Class(op) == api.Sense:
		n, e := sense.Do(p.s, i, 0x5a5a5a5a)
		if e.Cause != 0 {
			return faulted(e.Cause, 0)
		}
		p.s = n
		return api.Exit{}
	case op >= 0x30 && op <= 0x3a:
		return p.moves(i)
	}
	n, f := core.Do(p.s, i, 0x5a5a5a5a)
	if f.Cause != 0 {
		return faulted(f.Cause, f.Addr)
	}
	p.s = n
	return api.Exit{}
}

// moves does what reads or writes memory.
func (p *paper) moves(i api.Ins) api.Exit {
	size := []uint64{4, 4, 1, 1, 2, 2, 1, 2, 4, 4, 4}[i.Op-0x30]
	kind := []int{2, 3, 2, 3, 2, 3, 2, 2, 3, 2, 3}[i.Op-0x30]
	va := p.s.R[i.B] + uint32(i.Imm)
	switch i.Op {
	case 0x38:
		va = p.s.R[7] - 4
	case 0x39:
		va = p.s.R[7]
	}
	if uint64(va)%size != 0 {
		return faulted(4, va)
	}
	at, is := p.leads(va, kind)
	if !is {
		return faulted(4+kind, va)
	}
	var v uint32
	for k := range size {
		v += uint32(p.mem[at+k]) << (8 * k)
	}
	n, f := core.Do(p.s, i, v)
	if f.Cause != 0 {
		return faulted(f.Cause, f.Addr)
	}
	if kind == 3 {
		p.writes(va, at, p.s.R[i.A], size)
	}
	if !slices.Contains(p.touched, int(at/64)) {
		p.touched = append(p.touched, int(at/64))
	}
	p.s = n
	return api.Exit{}
}

// writes lays what is written, behind the soiling of the entry that leads there
// now.
func (p *paper) writes(va uint32, at uint64, value uint32, size uint64) {
	if _, entry, is := p.path(va); is {
		p.mem[entry] |= 16
	} else {
		p.lone++
	}
	for k := range size {
		p.mem[at+k] = byte(value >> (8 * k))
	}
}
