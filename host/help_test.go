package host_test

import (
	"bytes"
	"slices"
	"testing"

	"mummer/api"
	"mummer/host"
	"mummer/isa"
	"mummer/ram"
)

// all is an entry that lets everything.
const all = api.EThere | api.EWrite | api.EUser

// rig is a host, its memory, and the test's own reading of it.
type rig struct {
	r *ram.RAM
	h *host.Host
	p *paper
}

func memory(t *testing.T, frames int) *ram.RAM {
	t.Helper()
	r, e := ram.New(frames)
	if e != api.OK {
		t.Fatalf("ram.New(%d): %d", frames, int(e))
	}
	return r
}

// flat is all of a memory's bytes.
func flat(r *ram.RAM) []byte {
	var b []byte
	for n := range int(r.Size() / 64) {
		b = append(b, r.Frame(n)...)
	}
	return b
}

func of(t *testing.T, r *ram.RAM, slots int) *rig {
	t.Helper()
	h, e := host.New(r, slots)
	if h == nil || e != api.OK {
		t.Fatalf("New(%d bytes, %d): %v, %d", r.Size(), slots, h != nil, int(e))
	}
	return &rig{r, h, &paper{mem: flat(r), slots: uint64(slots)}}
}

// paged is a host with 16 slots, a memory of ten frames, and a loaded state that
// is all 0 but for its status. The directory is in the frames 0 and 1; its
// entries 0, 1 and 31 lead to the tables in the frames 2, 3 and 4; the addresses
// 0, 64, 128 .. lead to the frames 5, 6, 7, 8, 9, 2, each with all.
func paged(t *testing.T) *rig { return slotted(t, 16) }

// slotted is paged with so many slots.
func slotted(t *testing.T, slots int) *rig {
	t.Helper()
	g := of(t, memory(t, 10), slots)
	g.word(t, 0, 2*64|all)
	g.word(t, 4, 3*64|all)
	g.word(t, 4*31, 4*64|all)
	for k, frame := range []int{5, 6, 7, 8, 9, 2} {
		g.page(t, uint32(64*k), frame, all)
	}
	g.load(t, api.State{})
	return g
}

// fill lays bytes into the memory, past the host.
func (g *rig) fill(t *testing.T, at uint32, b ...byte) {
	t.Helper()
	if !g.r.Fill(at, b) {
		t.Fatalf("no room for %d bytes at %d", len(b), at)
	}
	copy(g.p.mem[at:], b)
}

func (g *rig) word(t *testing.T, at, w uint32) {
	t.Helper()
	g.fill(t, at, byte(w), byte(w>>8), byte(w>>16), byte(w>>24))
}

// page lays the table's entry of a page, of which paged has a table.
func (g *rig) page(t *testing.T, va uint32, frame int, bits uint32) {
	t.Helper()
	table := map[uint32]uint32{0: 2, 1: 3, 31: 4}[va/1024]
	if table == 0 {
		t.Fatalf("no table of %d", va)
	}
	g.word(t, table*64+va/64%16*4, uint32(frame)*64|bits)
}

// code is the bytes of instructions, one behind the other.
func code(t *testing.T, list ...api.Ins) []byte {
	t.Helper()
	var b []byte
	for _, i := range list {
		piece, e := isa.Encode(i, true)
		if e != api.OK {
			t.Fatalf("%+v: %d", i, int(e))
		}
		b = append(b, piece...)
	}
	return b
}

// program lays instructions into the memory at an address.
func (g *rig) program(t *testing.T, at uint32, list ...api.Ins) {
	t.Helper()
	g.fill(t, at, code(t, list...)...)
}

func (g *rig) load(t *testing.T, s api.State) {
	t.Helper()
	g.h.Load(s)
	s.PS |= 5
	s.Halted = false
	g.p.s = s
	g.hold(t)
}

// set loads a state of which one thing is another than it was.
func (g *rig) set(t *testing.T, turn func(s *api.State)) {
	t.Helper()
	s := g.p.s
	turn(&s)
	g.load(t, s)
}

// at loads a state that stands at another place.
func (g *rig) at(t *testing.T, pc uint32) {
	t.Helper()
	g.set(t, func(s *api.State) { s.PC = pc })
}

func (g *rig) tally(t *testing.T, on bool, limit int) {
	t.Helper()
	g.h.Tally(on, limit)
	g.p.on, g.p.limit, g.p.count = on, limit, 0
	g.hold(t)
}

func (g *rig) flush(t *testing.T) {
	t.Helper()
	g.h.Flush()
	g.p.trod = nil
	g.hold(t)
}

func (g *rig) forget(t *testing.T) {
	t.Helper()
	g.h.Forget()
	g.p.touched = nil
	g.hold(t)
}

// hold holds all that a host tells against the test's reading.
func (g *rig) hold(t *testing.T) {
	t.Helper()
	if s := g.h.State(); s != g.p.s {
		t.Fatalf("State is\n%+v, want\n%+v", s, g.p.s)
	}
	if n := g.h.Count(); n != g.p.count {
		t.Fatalf("Count is %d, want %d", n, g.p.count)
	}
	slices.Sort(g.p.touched)
	if l := g.h.Touched(); !slices.Equal(l, g.p.touched) {
		t.Fatalf("Touched is %v, want %v", l, g.p.touched)
	}
	if b := flat(g.r); !bytes.Equal(b, g.p.mem) {
		t.Fatalf("the memory is\n% x, want\n% x", b, g.p.mem)
	}
}

// runs lets both run.
func (g *rig) runs(t *testing.T, n int) api.Exit {
	t.Helper()
	got, want := g.h.Run(n), g.p.run(n)
	if got != want {
		t.Fatalf("Run(%d) is %+v, want %+v", n, got, want)
	}
	g.hold(t)
	return got
}

// ends lets both run, and asks for what is typed out.
func (g *rig) ends(t *testing.T, n int, want api.Exit) {
	t.Helper()
	if got := g.runs(t, n); got != want {
		t.Fatalf("Run(%d) is %+v, want %+v", n, got, want)
	}
}

func (g *rig) spends(t *testing.T, n int) {
	t.Helper()
	g.ends(t, n, api.Exit{Kind: api.XSpent, N: n})
}

// fails lets one instruction run, and asks that it comes to a fault by which
// nothing turns.
func (g *rig) fails(t *testing.T, cause int, addr uint32) {
	t.Helper()
	g.stays(t, 9, api.Exit{Kind: api.XFault, Cause: cause, Addr: addr})
}

// stays asks that a run ends so at its first instruction, which is not done.
func (g *rig) stays(t *testing.T, n int, want api.Exit) {
	t.Helper()
	s, mem, touched, count := g.h.State(), flat(g.r), g.h.Touched(), g.h.Count()
	g.ends(t, n, want)
	if g.h.State() != s || !bytes.Equal(flat(g.r), mem) || !slices.Equal(g.h.Touched(), touched) || g.h.Count() != count {
		t.Fatalf("%+v turned %+v to %+v, %v to %v, or the memory", want, s, g.h.State(), touched, g.h.Touched())
	}
}

// has asks for a byte of the memory.
func (g *rig) has(t *testing.T, at uint32, want byte) {
	t.Helper()
	if b, is := g.r.Byte(at); !is || b != want {
		t.Errorf("at %d there is %#x, %t, want %#x", at, b, is, want)
	}
}

func (g *rig) touches(t *testing.T, want ...int) {
	t.Helper()
	if l := g.h.Touched(); !slices.Equal(l, want) {
		t.Errorf("Touched is %v, want %v", l, want)
	}
}
