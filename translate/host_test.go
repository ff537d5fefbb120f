package translate_test

import (
	"math/rand"
	"slices"
	"testing"

	"mummer/api"
	"mummer/host"
	"mummer/isa"
	"mummer/machine"
	"mummer/pool"
	"mummer/ram"
	"mummer/scan"
	"mummer/shadow"
	"mummer/walk"
)

// rowsFit holds that rows rise by Off, and that one stands just where an
// instruction of the host's begins; and that what stands there fits its Exit.
func rowsFit(t *testing.T, c api.Code) {
	t.Helper()
	off := 0
	for k, r := range c.Rows {
		i, size, e := isa.Decode(c.Bytes[min(off, len(c.Bytes)):], true)
		if e != api.OK || r.Off != off {
			t.Fatalf("the row %d of % x %v: an instruction at %d, %d", k, c.Bytes, c.Rows, off, int(e))
		}
		if leaves := i.Op == api.OLeave; leaves && r.Exit != int(i.Imm) || !leaves && r.Exit != -1 {
			t.Fatalf("the row %d of % x %v: %+v", k, c.Bytes, c.Rows, i)
		}
		off += size
	}
	if off != len(c.Bytes) || off == 0 {
		t.Fatalf("% x %v: the last row's instruction ends at %d", c.Bytes, c.Rows, off)
	}
}

// TestP20_2RowsFit, of blocks of each End and length.
func TestP20_2RowsFit(t *testing.T) {
	x := rand.New(rand.NewSource(205))
	for range 3000 {
		rowsFit(t, made(t, drawBlock(x), x.Intn(65535)))
	}
	for n := 1; n <= 32; n++ {
		for _, last := range []api.Ins{nop, ldi, jmp, call, beq, hlt, trap} {
			rowsFit(t, made(t, block(0, append(nops(n-1), last)...), 65534))
		}
	}
}

// Frames of a host's memory: its directory is in 0 and 1.
const (
	tables     = 2 // those of its tables, as many as are above
	codeFrames = 10
	guestFrame = 20 // the guest's first one
)

// Frames of a guest's memory: its directory is in 0, its table in 1.
const (
	code   = 2 // the first one of those that code lies in
	within = 5 // the first one of its data
	frames = 16
)

// rig is a machine, and a host whose data lie where the machine's lie, and which
// has a block's code in the upper half of its space.
type rig struct {
	m    *machine.Machine
	h    *host.Host
	r    *ram.RAM // the host's
	c    api.Code
	base uint32 // where the code begins
	b    api.Block
	was  []byte // the frames from which the block was read
}

func memory(t *testing.T, frames int) *ram.RAM {
	t.Helper()
	r, e := ram.New(frames)
	if e != api.OK {
		t.Fatal(int(e))
	}
	return r
}

// beside is a rig for a block that was found in a guest's memory at a state.
func beside(t *testing.T, guest *ram.RAM, s api.State, b api.Block, base uint32) *rig {
	t.Helper()
	g := &rig{r: memory(t, guestFrame+frames), base: api.Space + base, b: b, c: made(t, b, 300)}
	p, e := pool.New(tables, codeFrames-tables)
	if e != api.OK {
		t.Fatal(int(e))
	}
	x, e := shadow.New(g.r, 0, p)
	if e != api.OK {
		t.Fatal(int(e))
	}
	g.lay(t, x)
	for n := range frames {
		g.r.Fill(uint32(64*(guestFrame+n)), guest.Frame(n))
	}
	data(t, x, guest, s)
	if g.h, e = host.New(g.r, 8); e != api.OK {
		t.Fatal(int(e))
	}
	g.h.Load(api.State{R: s.R, PC: g.base, PS: s.PS & api.FMask, CR: [8]uint32{api.CRoot: x.Root()}})
	g.h.Tally(true, 1<<30)
	if g.m, e = machine.Over(guest, s, nil, nil); e != api.OK {
		t.Fatal(int(e))
	}
	g.was = g.source()
	return g
}

// lay lays the code, of which nothing may be read or written.
func (g *rig) lay(t *testing.T, x *shadow.Shadow) {
	t.Helper()
	end := g.base + uint32(len(g.c.Bytes))
	for va := g.base / 64 * 64; va < end; va += 64 {
		if !x.Put(va, codeFrames+int(va/64-g.base/64), api.EThere|api.EUser|api.ECode) {
			t.Fatalf("no page at %d", va)
		}
	}
	if !g.r.Fill(64*codeFrames+g.base%64, g.c.Bytes) {
		t.Fatal("no room for the code")
	}
}

// data lets the host come to what the guest may read and write in its state.
func data(t *testing.T, x *shadow.Shadow, guest *ram.RAM, s api.State) {
	t.Helper()
	for va := uint32(0); va < api.Space; va += 64 {
		at, is := walk.To(guest, s.CR[api.CRoot], api.Entries, s.PS, va, api.Read)
		if !is {
			continue
		}
		bits := api.EThere | api.EUser
		if _, is := walk.To(guest, s.CR[api.CRoot], api.Entries, s.PS, va, api.Write); is {
			bits |= api.EWrite
		}
		if !x.Put(va, guestFrame+int(at/64), bits) {
			t.Fatalf("no page at %d", va)
		}
	}
}

// source is what stands in the frames from which the block was read.
func (g *rig) source() []byte {
	var l []byte
	for _, n := range g.b.Frames {
		l = append(l, g.m.RAM().Frame(n)...)
	}
	return l
}

// stands is the row of the host's place.
func (g *rig) stands(t *testing.T) api.Row {
	t.Helper()
	for _, r := range g.c.Rows {
		if g.base+uint32(r.Off) == g.h.State().PC {
			return r
		}
	}
	t.Fatalf("the host stands at %d, of which % x, %v at %d, has no row", g.h.State().PC, g.c.Bytes, g.c.Rows, g.base)
	return api.Row{}
}

// hold brings the machine to as many steps as the host's place tells, and holds
// them against one another; false, if the block's frames have changed.
func (g *rig) hold(t *testing.T) bool {
	t.Helper()
	row := g.stands(t)
	for total := g.h.Count() + row.Done; g.m.Steps() < total; {
		if f := g.m.One(); f.Cause != 0 {
			t.Fatalf("at %+v of %+v the machine comes to %+v", row, g.b, f)
		}
	}
	s, h := g.m.State(), g.h.State()
	if s.PC != row.PC || s.R != h.R || s.PS&api.FMask != h.PS&api.FMask || g.m.Steps() != g.h.Count()+row.Done {
		t.Fatalf("at %+v of %+v, behind %d steps, the machine is %+v, the host %+v", row, g.b, g.m.Steps(), s, h)
	}
	for n := code; n < frames; n++ {
		if !slices.Equal(g.m.RAM().Frame(n), g.r.Frame(guestFrame+n)) {
			t.Fatalf("at %+v of %+v the frame %d differs", row, g.b, n)
		}
	}
	return slices.Equal(g.source(), g.was)
}

// runs lets the host do the code, instruction by instruction; the answer is how
// it ended, with XSpent if the block's frames have changed.
func (g *rig) runs(t *testing.T) api.Exit {
	t.Helper()
	for g.hold(t) {
		row := g.stands(t)
		e := g.h.Run(1)
		switch e.Kind {
		case api.XSpent:
		case api.XLeave:
			if int(e.Addr) != row.Exit {
				t.Fatalf("at %+v of %+v: %+v", row, g.b, e)
			}
			g.left(t)
			return e
		case api.XFault:
			if f := g.m.One(); f != (api.Fault{Cause: e.Cause, Addr: e.Addr}) {
				t.Fatalf("at %+v of %+v: %+v, the machine comes to %+v", row, g.b, e, f)
			}
			return e
		default:
			t.Fatalf("at %+v of %+v: %+v", row, g.b, e)
		}
	}
	return api.Exit{Kind: api.XSpent}
}

// left holds that a block that was left is done whole, but for what it asks.
func (g *rig) left(t *testing.T) {
	t.Helper()
	want, at := len(g.b.Ins), []uint32{g.b.Next}
	switch g.b.End {
	case api.EndJump:
		at = []uint32{g.b.To}
	case api.EndBranch:
		at = []uint32{g.b.Next, g.b.To}
	case api.EndAsk:
		want, at = want-1, g.b.At[want-1:]
	}
	if g.h.Count() != want || !slices.Contains(at, g.m.State().PC) {
		t.Fatalf("%+v is left behind %d, at %d", g.b, g.h.Count(), g.m.State().PC)
	}
}

// drawCode is bytes of instructions, of which one in rare ends a block.
func drawCode(x *rand.Rand, n, rare int) []byte {
	var b []byte
	for len(b) < n {
		ops := guests(1)
		switch {
		case x.Intn(rare) == 0:
			ops = guests(2 + x.Intn(3))
		case x.Intn(4) > 0:
			ops = slices.DeleteFunc(ops, func(op byte) bool { return op == api.ODiv || op == api.ORem || op >= api.OLd && op <= api.OXchg })
		}
		i := drawIns(x, ops)
		switch {
		case i.Op >= api.OLd && i.Op <= api.OLdsh && x.Intn(4) > 0:
			i.Imm = i.Imm / 4 * 4
		case i.Op == api.OLdi && x.Intn(4) > 0:
			i.Imm = int32(drawPlace(x))
		}
		b = append(b, paperBytes(i)...)
	}
	return b[:n]
}

// drawPlace is, as a rule, one within the guest's memory.
func drawPlace(x *rand.Rand) uint32 {
	switch x.Intn(12) {
	case 0:
		return x.Uint32()
	case 1:
		return uint32(x.Intn(64 * frames))
	case 2:
		return api.Space + uint32(4*x.Intn(256))
	case 3:
		return uint32(64*code + 4*x.Intn(16*(within-code)))
	}
	return uint32(64*within + 4*x.Intn(16*(frames-within)))
}

// all is an entry that lets everything.
const all = api.EThere | api.EWrite | api.EUser

// drawGuest is a guest's memory and a state. The directory leads to the table,
// by which the first pages lead, as a rule, to the frames of the same numbers.
func drawGuest(t *testing.T, x *rand.Rand) (*ram.RAM, api.State) {
	t.Helper()
	r := memory(t, frames)
	r.Fill(64*code, drawCode(x, 64*(within-code), 3+x.Intn(60)))
	for n := within; n < frames; n++ {
		b := make([]byte, 64)
		x.Read(b)
		r.Fill(uint32(64*n), b)
	}
	r.SetWord(0, 64|all)
	if x.Intn(2) == 0 {
		r.SetWord(4*uint32(1+x.Intn(15)), 64|uint32(x.Intn(32)))
	}
	for k := range uint32(frames) {
		to, bits := k, uint32(all)
		if k >= within && x.Intn(4) == 0 {
			to, bits = within+uint32(x.Intn(frames-within)), uint32(x.Intn(32))
		}
		if k < within {
			bits = api.EThere | api.EUser // neither tables nor code may be written
		}
		r.SetWord(64+4*k, 64*to|bits)
	}
	s := api.State{PC: 64*code + uint32(x.Intn(64*(within-code))), PS: x.Uint32() & api.PMask}
	for k := range s.R {
		s.R[k] = drawPlace(x)
		if x.Intn(5) == 0 {
			s.R[k] = uint32(x.Intn(3))
		}
	}
	return r, s
}

// TestP20_2BesideTheMachine: the code does to registers, flags and memory just
// what the machine does, and its rows tell at each place where that is.
func TestP20_2BesideTheMachine(t *testing.T) {
	x := rand.New(rand.NewSource(206))
	var left, failed [5]int
	var causes [9]int
	exits := map[uint32]int{}
	written, long := 0, 0
	for range 12000 {
		r, s := drawGuest(t, x)
		b, f := scan.Scan(r, s, 1+x.Intn(40))
		if f.Cause != 0 {
			continue
		}
		g := beside(t, r, s, b, uint32(x.Intn(64)+1024*x.Intn(4)))
		switch e := g.runs(t); e.Kind {
		case api.XLeave:
			left[b.End]++
			exits[e.Addr]++
			if len(b.Ins) > 12 {
				long++
			}
		case api.XFault:
			failed[b.End]++
			causes[e.Cause]++
		default:
			written++
		}
	}
	for end := api.EndNext; end <= api.EndAsk; end++ {
		if left[end] < 100 || failed[end] < 50 {
			t.Errorf("of the End %d %d blocks were left, %d came to a fault", end, left[end], failed[end])
		}
	}
	for _, cause := range []int{api.Division, api.Misaligned, api.NoRead, api.NoWrite} {
		if causes[cause] < 30 {
			t.Errorf("the cause %d came %d times", cause, causes[cause])
		}
	}
	if exits[300] < 100 || exits[301] < 100 || written < 20 || long < 50 {
		t.Errorf("exits %v; %d wrote over themselves; %d long ones", exits, written, long)
	}
}

// one is a rig for a block of just these instructions, with registers that are
// drawn, and with the status ps.
func one(t *testing.T, x *rand.Rand, ps uint32, list ...api.Ins) *rig {
	t.Helper()
	r, s := drawGuest(t, x)
	s.PC, s.PS = 64*code, ps
	var b []byte
	for _, i := range list {
		b = append(b, paperBytes(i)...)
	}
	r.Fill(64*code, b)
	found, f := scan.Scan(r, s, len(list))
	if f.Cause != 0 || len(found.Ins) != len(list) {
		t.Fatalf("%+v: %+v, %+v", list, found, f)
	}
	return beside(t, r, s, found, uint32(x.Intn(64)))
}

// TestP20_2Branches: each branch leaves by the second exit just if its condition
// holds, at all flags, wherever it leads.
func TestP20_2Branches(t *testing.T) {
	x := rand.New(rand.NewSource(207))
	for flags := range uint32(16) {
		z, n, c, v := flags&1 > 0, flags&2 > 0, flags&4 > 0, flags&8 > 0
		holds := []bool{z, !z, n != v, n == v, c, !c, v}
		for k, op := range guests(3) {
			for _, imm := range []int32{-32768, -5, 0, 5, 32767} {
				g := one(t, x, 16*flags, nop, api.Ins{Op: op, Imm: imm})
				want := uint32(300)
				if holds[k] {
					want++
				}
				if e := g.runs(t); e.Kind != api.XLeave || e.Addr != want {
					t.Fatalf("the operation %#x, the flags %#x: %+v, want the exit %d", op, 16*flags, e, want)
				}
			}
		}
	}
}

// TestP20_2WhatIsAsked is not done: the host stands ahead of it, whatever it is.
func TestP20_2WhatIsAsked(t *testing.T) {
	x := rand.New(rand.NewSource(208))
	for _, op := range guests(4) {
		for _, ps := range []uint32{0, api.PUser, api.PPage, api.PUser | api.PPage | api.PInt} {
			g := one(t, x, ps, nop, ldi, nop, api.Ins{Op: op})
			if e := g.runs(t); e != (api.Exit{Kind: api.XLeave, Addr: 300}) || g.m.Steps() != 3 || g.m.State().PC != 64*code+8 {
				t.Fatalf("the operation %#x: %+v, behind %d steps", op, e, g.m.Steps())
			}
		}
	}
}

// TestP20_2Faults: the row of the place at which a fault comes tells the guest's
// place, and how many are done.
func TestP20_2Faults(t *testing.T) {
	x := rand.New(rand.NewSource(209))
	bad := []api.Ins{{Op: api.ODiv, A: 1, B: 5}, {Op: api.ORem, A: 5, B: 5}, {Op: api.OLd, A: 1, B: 5, Imm: 3}, {Op: api.OLd, A: 1, B: 4}, {Op: api.OSt, A: 1, B: 4}, {Op: api.OLdb, A: 2, B: 4, Imm: 1}, {Op: api.OXchg, A: 1, B: 4}}
	for k := range 30 {
		for _, i := range bad {
			list := []api.Ins{{Op: api.OLdi, A: 5}, {Op: api.OLdi, A: 4, Imm: 4096}}
			list = append(append(list, nops(k)...), i, add)
			g := one(t, x, uint32(16*x.Intn(16)), list[:min(len(list), 32)]...)
			e := g.runs(t)
			if e.Kind != api.XFault {
				t.Fatalf("%+v: %+v", list, e)
			}
			if row := g.stands(t); row.Done != k+2 || row.PC != uint32(64*code+12+k) || g.h.Count() != 0 {
				t.Fatalf("%+v: %+v, %d tallied", list, row, g.h.Count())
			}
		}
	}
}

// TestP20_2Calls leave the guest's place behind the call, not the code's own.
func TestP20_2Calls(t *testing.T) {
	x := rand.New(rand.NewSource(210))
	for _, ahead := range [][]api.Ins{nil, {add}, {ldi, add, nop}} {
		g := one(t, x, 0, append(slices.Clone(ahead), call)...)
		if e := g.runs(t); e.Kind != api.XLeave || g.h.State().R[6] != g.b.Next || g.h.Count() != len(ahead)+1 {
			t.Errorf("%+v: %+v, %+v", g.b, e, g.h.State())
		}
	}
}
