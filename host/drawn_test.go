package host_test

import (
	"bytes"
	"math/rand"
	"sync"
	"testing"

	"mummer/api"
	"mummer/isa"
	"mummer/machine"
)

// drawIns is the bytes of an instruction; a few of them are none.
func drawIns(x *rand.Rand) []byte {
	if x.Intn(80) == 0 {
		return []byte{byte(x.Intn(256)), byte(x.Intn(256))}
	}
	op := uint8(x.Intn(256))
	for isa.Size(op, true) == 0 || (op <= api.OHlt || op == api.OTrap || op == api.OLeave || op >= api.OWrcr && op <= api.OOut) && x.Intn(8) > 0 {
		op = uint8(x.Intn(256))
	}
	i := api.Ins{Op: op, A: uint8(x.Intn(8)), B: uint8(x.Intn(8)), Imm: int32(4 * (x.Intn(24) - 8))}
	if op == api.OLdi {
		i.Imm = int32(drawNumber(x))
	}
	for _, j := range []api.Ins{i, {Op: op, A: i.A, Imm: i.Imm}, {Op: op, A: i.A, B: i.B}, {Op: op, Imm: i.Imm}, {Op: op, A: i.A}, {Op: op, Imm: int32(x.Intn(6))}, {Op: op}} {
		if b, e := isa.Encode(j, true); e == api.OK {
			return b
		}
	}
	return []byte{0}
}

func drawNumber(x *rand.Rand) uint32 {
	switch x.Intn(12) {
	case 0:
		return x.Uint32()
	case 1:
		return []uint32{0, 1, 2, 3, 7, 0x7fffffff, 0x80000000, 0xffffffff, 0xfffffffc, 16384, 16380, 16385, 32764, 32768}[x.Intn(14)]
	case 2:
		return uint32(x.Intn(1024))
	case 3:
		return uint32(4 * x.Intn(8192))
	case 4:
		return 0
	}
	return uint32(4 * x.Intn(256))
}

// drawBits is the bits of an entry: as a rule all is let.
func drawBits(x *rand.Rand) uint32 {
	if x.Intn(12) == 0 {
		return uint32(x.Intn(64))
	}
	return all
}

// drawMemory is a row of bytes with a directory in the frames 0 and 1, tables in
// the frames 2 and 3 whose pages lead to frames from first on, and instructions
// elsewhere.
func drawMemory(x *rand.Rand, frames, first int) []byte {
	var b []byte
	for len(b) < 64*frames {
		b = append(b, drawIns(x)...)
	}
	b = b[:64*frames]
	for k := range 32 {
		setWord(b, 4*k, 64*uint32(2+x.Intn(2))|drawBits(x))
		setWord(b, 128+4*k, 64*uint32(first+x.Intn(frames-first+1))|drawBits(x))
	}
	return b
}

func setWord(b []byte, at int, w uint32) {
	for k := range 4 {
		b[at+k] = byte(w >> (8 * k))
	}
}

func drawState(x *rand.Rand) api.State {
	s := api.State{PC: uint32(x.Intn(1024)), PS: x.Uint32() & 0xf7, Halted: x.Intn(2) == 0}
	for k := range s.R {
		s.R[k], s.CR[k] = drawNumber(x), drawNumber(x)
	}
	s.CR[api.CRoot] = uint32(x.Intn(64))
	return s
}

func drawn(t *testing.T, x *rand.Rand, frames, first, slots int) *rig {
	t.Helper()
	r := memory(t, frames)
	r.Fill(0, drawMemory(x, frames, first))
	g := of(t, r, slots)
	g.load(t, drawState(x))
	return g
}

// anyCall lets both do one drawn call.
func (g *rig) anyCall(t *testing.T, x *rand.Rand) api.Exit {
	t.Helper()
	switch x.Intn(20) {
	case 0:
		g.flush(t)
	case 1:
		g.forget(t)
	case 2:
		g.tally(t, x.Intn(4) > 0, x.Intn(60)-4)
	case 3, 4:
		s := drawState(x)
		if x.Intn(8) == 0 {
			s.CR[api.CRoot] = drawNumber(x)
		}
		g.load(t, s)
	case 5:
		g.word(t, uint32(128+4*x.Intn(32)), 64*uint32(x.Intn(len(g.p.mem)/64+1))|drawBits(x))
	case 6:
		g.word(t, uint32(4*x.Intn(64)), 0)
	default:
		e := g.runs(t, x.Intn(40)-1)
		if e.Kind != api.XSpent && x.Intn(8) > 0 {
			g.at(t, uint32(x.Intn(1024)))
		}
		return e
	}
	return api.Exit{}
}

// TestP17_3DrawnRuns holds whole runs against the test's own reading, and asks
// whether each end was among them, and ways that were known and not right.
func TestP17_3DrawnRuns(t *testing.T) {
	x := rand.New(rand.NewSource(17))
	var kinds, causes [8]int
	stale, lone := 0, 0
	for range 1500 {
		g := drawn(t, x, 6+x.Intn(14), 0, 1+x.Intn(64)*x.Intn(2))
		g.tally(t, true, x.Intn(100))
		for range 60 {
			e := g.anyCall(t, x)
			kinds[e.Kind]++
			causes[e.Cause]++
		}
		stale += g.p.stale
		lone += g.p.lone
	}
	for kind := api.XSpent; kind <= api.XTally; kind++ {
		if kinds[kind] < 50 {
			t.Errorf("the end %d came %d times", kind, kinds[kind])
		}
	}
	for cause := api.Undecodable; cause <= api.NoWrite; cause++ {
		if causes[cause] < 50 {
			t.Errorf("the cause %d came %d times", cause, causes[cause])
		}
	}
	if stale < 500 || lone < 5 {
		t.Errorf("%d ways were known and not right, %d writes soiled nothing", stale, lone)
	}
}

// TestP17_3RunsAreOneRun: a run that is spent goes on as one that was longer.
func TestP17_3RunsAreOneRun(t *testing.T) {
	x := rand.New(rand.NewSource(170))
	for range 300 {
		seed := x.Int63()
		one := drawn(t, rand.New(rand.NewSource(seed)), 12, 0, 8)
		two := drawn(t, rand.New(rand.NewSource(seed)), 12, 0, 8)
		one.tally(t, true, 90)
		two.tally(t, true, 90)
		n, k := x.Intn(20), x.Intn(20)
		a := one.runs(t, n)
		if a.Kind == api.XSpent {
			a = one.runs(t, k)
			a.N += n
			if b := two.runs(t, n+k); a != b {
				t.Fatalf("%d and %d: %+v, together %+v", n, k, a, b)
			}
			if one.h.State() != two.h.State() || !bytes.Equal(flat(one.r), flat(two.r)) {
				t.Fatalf("%d and %d: another state, or another memory", n, k)
			}
		}
	}
}

// TestP17_5AsOneThatRemembersNothing: no page leads to a table, so that they
// stay as they are, but for what soils them.
func TestP17_5AsOneThatRemembersNothing(t *testing.T) {
	x := rand.New(rand.NewSource(175))
	long := 0
	for range 3000 {
		seed, slots := x.Int63(), 1+x.Intn(64)
		one := drawn(t, rand.New(rand.NewSource(seed)), 12, 4, slots)
		two := drawn(t, rand.New(rand.NewSource(seed)), 12, 4, slots)
		one.tally(t, true, 300)
		two.tally(t, true, 300)
		want := one.runs(t, 200)
		var got api.Exit
		done := 0
		for got.Kind = api.XSpent; got.Kind == api.XSpent && done < 200; done += got.N {
			two.flush(t)
			got = two.runs(t, 1)
		}
		if got.N = done; got != want {
			t.Fatalf("one that is flushed all the time comes to %+v, want %+v", got, want)
		}
		if one.h.State() != two.h.State() || !bytes.Equal(flat(one.r), flat(two.r)) {
			t.Fatal("one that is flushed all the time comes to another state, or another memory")
		}
		if done > 20 {
			long++
		}
	}
	if long < 20 {
		t.Errorf("only %d runs were longer than 20", long)
	}
}

// beside lets a machine and a host do an instruction each from the same state
// on; it answers whether they can go on.
func beside(t *testing.T, m *machine.Machine, g *rig) (api.Exit, bool) {
	t.Helper()
	g.flush(t) // a machine remembers nothing
	e, f := g.runs(t, 1), m.One()
	if f.Addr >= api.Space && f.Cause >= api.NoFetch && f.Cause <= api.NoWrite {
		return e, false // a host goes there
	}
	want := api.Exit{Kind: api.XFault, Cause: f.Cause, Addr: f.Addr}
	switch f.Cause {
	case 0:
		want = api.Exit{Kind: api.XSpent, N: 1}
		if m.State() != g.h.State() {
			t.Fatalf("the state is\n%+v, the machine's\n%+v", g.h.State(), m.State())
		}
	case api.Asked:
		want = api.Exit{Kind: api.XTrap, Addr: f.Addr}
	}
	if e != want {
		t.Fatalf("the host comes to %+v, the machine to %+v", e, f)
	}
	if !bytes.Equal(flat(m.RAM()), flat(g.r)) {
		t.Fatal("they have other memories")
	}
	return e, f.Cause == 0
}

// TestP17_5AsTheMachine: while the tally is off, each instruction does what it
// does on chapter 12's machine in the user ring.
func TestP17_5AsTheMachine(t *testing.T) {
	x := rand.New(rand.NewSource(1712))
	var kinds, causes [9]int
	for range 1500 {
		g := drawn(t, x, 6+x.Intn(14), 0, 1+x.Intn(64))
		m, e := machine.Over(g.r.Copy(), g.h.State(), nil, nil)
		if e != api.OK {
			t.Fatal(int(e))
		}
		for range 60 {
			e, is := beside(t, m, g)
			kinds[e.Kind]++
			causes[e.Cause]++
			if !is {
				break
			}
		}
	}
	if kinds[api.XSpent] < 2000 || kinds[api.XTrap] < 5 {
		t.Errorf("%d instructions were done, %d traps came", kinds[api.XSpent], kinds[api.XTrap])
	}
	for cause := api.Undecodable; cause <= api.NoWrite; cause++ {
		if causes[cause] < 10 {
			t.Errorf("the cause %d came %d times", cause, causes[cause])
		}
	}
}

// TestP17_5BeyondTheSpace: there a host goes on, where a machine does not.
func TestP17_5BeyondTheSpace(t *testing.T) {
	g := paged(t)
	g.word(t, 4*16, 4*64|all)
	g.page(t, 31744, 6, all)
	g.program(t, 5*64, api.Ins{Op: api.OSt, A: 1, B: 2})
	g.set(t, func(s *api.State) { s.R[2] = api.Space })
	m, e := machine.Over(g.r.Copy(), g.h.State(), nil, nil)
	if e != api.OK {
		t.Fatal(int(e))
	}
	g.spends(t, 1)
	g.touches(t, 6)
	if f := m.One(); f != (api.Fault{Cause: api.NoWrite, Addr: api.Space}) {
		t.Errorf("the machine comes to %+v", f)
	}
}

// TestP17_3TwoHostsHaveNothingInCommon (R4), also in several goroutines.
func TestP17_3TwoHostsHaveNothingInCommon(t *testing.T) {
	x := rand.New(rand.NewSource(174))
	for range 20 {
		seed := x.Int63()
		rigs := make([]*rig, 8)
		ends := make([]api.Exit, len(rigs))
		for k := range rigs {
			rigs[k] = drawn(t, rand.New(rand.NewSource(seed+int64(k/2))), 12, 0, 8)
			rigs[k].tally(t, true, 90)
		}
		var group sync.WaitGroup
		for k, g := range rigs {
			group.Go(func() { ends[k] = g.h.Run(300) })
		}
		group.Wait()
		for k, g := range rigs {
			if want := g.p.run(300); ends[k] != want {
				t.Fatalf("the host %d comes to %+v, want %+v", k, ends[k], want)
			}
			g.hold(t)
		}
	}
}

// TestP17_3TwoHostsInOneMemory share that alone.
func TestP17_3TwoHostsInOneMemory(t *testing.T) {
	a := paged(t)
	a.program(t, 5*64, api.Ins{Op: api.OSt, A: 1, B: 2}, api.Ins{Op: api.OLeave, Imm: 3})
	b := of(t, a.r, 16)
	a.set(t, func(s *api.State) { s.R[1], s.R[2] = 0x01020304, 64 })
	a.tally(t, true, 9)
	a.ends(t, 9, api.Exit{Kind: api.XLeave, Addr: 3, N: 1})
	// The other one has no state, no tally, and touched nothing; the memory is as it is now.
	b.p.mem = flat(a.r)
	b.hold(t)
	b.load(t, api.State{R: [8]uint32{2: 64, 3: 64}})
	b.ends(t, 9, api.Exit{Kind: api.XFault, Cause: api.Undecodable, Addr: 3, N: 1})
	a.p.mem = flat(a.r)
	a.touches(t, 6)
	a.hold(t)
}
