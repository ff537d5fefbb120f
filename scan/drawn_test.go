package scan_test

import (
	"math/rand"
	"slices"
	"sync"
	"testing"

	"mummer/api"
	"mummer/core"
	"mummer/flags"
	"mummer/isa"
	"mummer/kind"
	"mummer/machine"
	"mummer/ram"
	"mummer/scan"
	"mummer/sense"
	"mummer/walk"
)

// drawIns is the bytes of an instruction: one in rare ends a block, as many may
// come to a fault, and fewer are none.
func drawIns(x *rand.Rand, rare int) []byte {
	if x.Intn(4*rare) == 0 {
		return []byte{byte(x.Intn(256)), byte(x.Intn(256))}
	}
	op := uint8(x.Intn(256))
	ends, fails := x.Intn(rare) == 0, x.Intn(rare) == 0
	for isa.Size(op, false) == 0 || ends != (ending(op) != 1) || !fails && mayFail(op) {
		op = uint8(x.Intn(256))
	}
	i := api.Ins{Op: op, A: uint8(x.Intn(8)), B: uint8(x.Intn(8)), Imm: int32(4 * (x.Intn(24) - 8))}
	if op == api.OLdi {
		i.Imm = int32(drawNumber(x))
	}
	for _, j := range []api.Ins{i, {Op: op, A: i.A, Imm: i.Imm}, {Op: op, A: i.A, B: i.B}, {Op: op, Imm: i.Imm}, {Op: op, A: i.A}, {Op: op}} {
		if b, e := isa.Encode(j, false); e == api.OK {
			return b
		}
	}
	return []byte{0}
}

// mayFail says of operations that end no block whether they may come to a fault.
func mayFail(op uint8) bool {
	return op == api.ODiv || op == api.ORem || op >= api.OLd && op <= api.OXchg
}

func drawNumber(x *rand.Rand) uint32 {
	switch x.Intn(8) {
	case 0:
		return x.Uint32()
	case 1:
		return uint32(x.Intn(1024))
	}
	return uint32(4 * x.Intn(512))
}

// drawBits is the bits of an entry: as a rule all is let.
func drawBits(x *rand.Rand) uint32 {
	if x.Intn(8) == 0 {
		return uint32(x.Intn(64))
	}
	return all
}

// drawMemory has a directory in frame 0, tables in the frames 0, 1 and 2, and
// instructions elsewhere. The pages of the latter two lead to frames from first
// on.
func drawMemory(t *testing.T, x *rand.Rand, frames, first int) *ram.RAM {
	t.Helper()
	var b []byte
	for rare := 2 + x.Intn(40); len(b) < 64*frames; {
		b = append(b, drawIns(x, rare)...)
	}
	r := memory(t, frames)
	fill(t, r, 0, b[:64*frames]...)
	for k := range uint32(16) {
		word(t, r, 4*k, 64*[]uint32{0, 1, 1, 1, 1, 2, 2, 2}[x.Intn(8)]|drawBits(x))
	}
	for k := range uint32(32) {
		word(t, r, 64+4*k, 64*uint32(first+x.Intn(frames-first+1))|drawBits(x))
	}
	return r
}

func drawState(x *rand.Rand, frames int) api.State {
	s := api.State{PC: uint32(x.Intn(64 * frames)), PS: x.Uint32() & api.PMask}
	for k := range s.R {
		s.R[k], s.CR[k] = drawNumber(x), drawNumber(x)
	}
	s.CR[api.CRoot] = uint32(x.Intn(64))
	switch x.Intn(12) {
	case 0:
		s.PC = drawNumber(x)
	case 1:
		s.CR[api.CRoot] = drawNumber(x)
	case 2, 3, 4:
		s.PC = s.PC&^63 + 64 - uint32(x.Intn(6)) // near the end of a page
	case 5, 6:
		s.PC = 1024*uint32(1+x.Intn(16)) - uint32(x.Intn(12)) // near that of a table
	}
	return s
}

func drawMost(x *rand.Rand) int {
	if x.Intn(3) == 0 {
		return x.Intn(6) - 1
	}
	return 20 + x.Intn(20)
}

// drawn is a memory, a state, and a block that begins there.
func drawn(t *testing.T, x *rand.Rand, first int) (*ram.RAM, api.State, int, api.Block) {
	t.Helper()
	for {
		frames := 5 + x.Intn(12)
		r := drawMemory(t, x, frames, first)
		for range 8 {
			s, most := drawState(x, frames), drawMost(x)
			if b, f := scans(t, r, s, most); f.Cause == 0 {
				return r, s, most, b
			}
		}
	}
}

// TestP18_1Drawn holds drawn scans against the test's own reading, and asks
// whether all that the chapter speaks of was among them.
func TestP18_1Drawn(t *testing.T) {
	x := rand.New(rand.NewSource(18))
	var ends, causes, pages, tables [9]int
	full, mid, across, within := 0, 0, 0, 0
	for range 2500 {
		frames := 4 + x.Intn(14)
		r := drawMemory(t, x, frames, x.Intn(4))
		for range 12 {
			s, most := drawState(x, frames), drawMost(x)
			b, f := scans(t, r, s, most)
			want := paper{flat(r), s}.scan(most)
			ends[b.End]++
			causes[f.Cause]++
			pages[len(b.Frames)]++
			tables[len(b.Tables)]++
			if want.full {
				full++
			}
			if len(want.beyond) > 0 && f.Cause == 0 {
				mid++
			}
			if f.Cause == api.NoFetch && f.Addr != s.PC {
				within++
			}
			for k, i := range b.Ins {
				if b.At[k]/64 != (b.At[k]+uint32(isa.Size(i.Op, false))-1)/64 {
					across++
				}
			}
		}
	}
	for _, c := range []struct {
		what  string
		count [9]int
		from  int
		to    int
	}{{"End", ends, api.EndNext, api.EndAsk}, {"frames", pages, 1, 2}, {"tables", tables, 1, 3}} {
		for k := c.from; k <= c.to; k++ {
			if c.count[k] < 100 {
				t.Errorf("%s %d: %d times", c.what, k, c.count[k])
			}
		}
	}
	if causes[api.Undecodable] < 100 || causes[api.NoFetch] < 100 || full < 50 || mid < 100 || across < 100 || within < 20 {
		t.Errorf("causes %v; %d came to a third page, %d ended at a fault; %d instructions lay on two pages; %d faults within one", causes, full, mid, across, within)
	}
}

// TestP18_3OnlyTheLastEnds, and it ends the block as its End says.
func TestP18_3OnlyTheLastEnds(t *testing.T) {
	x := rand.New(rand.NewSource(181))
	known := kind.New()
	for range 4000 {
		_, s, most, b := drawn(t, x, 3)
		last := len(b.Ins) - 1
		if last < 0 || len(b.At) != len(b.Ins) || len(b.Ins) > min(max(most, 1), 32) || b.At[0] != s.PC {
			t.Fatalf("at %d, most %d: %v", s.PC, most, b)
		}
		place := s.PC
		for k, i := range b.Ins {
			if k < last && known.Ends(i.Op) || k == last && known.Ends(i.Op) != (b.End != api.EndNext) {
				t.Fatalf("the instruction %d: %v", k, b)
			}
			if !isa.May(i, false) || b.At[k] != place {
				t.Fatalf("the instruction %d: %v", k, b)
			}
			place += uint32(isa.Size(i.Op, false))
		}
		if b.Next != place {
			t.Fatalf("Next: %v", b)
		}
	}
}

// TestP18_3HangsOnNoOtherFrame: whatever is laid in frames that are none of its
// Frames and Tables, nor of where fetching went no further, the block is the
// same.
func TestP18_3HangsOnNoOtherFrame(t *testing.T) {
	x := rand.New(rand.NewSource(182))
	beyond, apart := 0, 0
	for range 4000 {
		r, s, most, b := drawn(t, x, x.Intn(4))
		further := paper{flat(r), s}.scan(most).beyond
		for n := range int(r.Size() / 64) {
			switch {
			case slices.Contains(b.Frames, n), slices.Contains(b.Tables, n):
				continue
			case slices.Contains(further, n):
				beyond++
				continue
			}
			apart++
			lay := make([]byte, 64)
			if x.Intn(4) > 0 {
				x.Read(lay)
			}
			fill(t, r, uint32(64*n), lay...)
			if now, f := scans(t, r, s, most); f.Cause != 0 || differs(now, b) != "" {
				t.Fatalf("behind a change of frame %d: %v, %+v, was %v", n, now, f, b)
			}
		}
	}
	if beyond < 50 || apart < 10000 {
		t.Errorf("%d frames lay beyond, %d apart", beyond, apart)
	}
}

// TestP18_3AFurtherFrame: where fetching went no further, the block goes on as
// soon as it can.
func TestP18_3AFurtherFrame(t *testing.T) {
	r := paged(t)
	word(t, r, 2*64+4, 0)
	fill(t, r, 4*64, code(t, jr)...)
	fill(t, r, 7*64+62, code(t, mov)...)
	s := at(62, api.PPage)
	one := api.Block{Ins: []api.Ins{mov}, At: []uint32{62}, Next: 64, End: api.EndNext, Frames: []int{7}, Tables: []int{0, 2}}
	two := api.Block{Ins: []api.Ins{mov, jr}, At: []uint32{62, 64}, Next: 66, End: api.EndAsk, Frames: []int{4, 7}, Tables: []int{0, 2}}
	comes(t, r, s, 9, one)
	word(t, r, 2*64+4, 4*64|all)
	comes(t, r, s, 9, two)
	fill(t, r, 4*64, 4)
	comes(t, r, s, 9, one)
	fill(t, r, 4*64, code(t, jr)...)
	comes(t, r, s, 9, two)
}

// stays says whether a block's frames are as they were; of those with tables the
// marks that a page was written do not count, unless code lies there, too.
func stays(was, now []byte, b api.Block) bool {
	for k := range was {
		differ := was[k] ^ now[k]
		if slices.Contains(b.Tables, k/64) && k%4 == 0 && !slices.Contains(b.Frames, k/64) {
			differ &^= byte(api.EDirty)
		}
		if differ != 0 && (slices.Contains(b.Frames, k/64) || slices.Contains(b.Tables, k/64)) {
			return false
		}
	}
	return true
}

// doneBy is the state behind an instruction, as the layers below the machine
// say; false, if it comes to a fault. In is what comes in.
func doneBy(r *ram.RAM, s api.State, i api.Ins, in uint32) (api.State, bool) {
	if kind.New().Class(i.Op) == api.Sense {
		n, e := sense.Do(s, i, in)
		return n, e.Cause == 0
	}
	a, f := core.Want(s, i)
	if f.Cause != 0 {
		return s, false
	}
	var v uint32
	if a.Size > 0 {
		at, is := walk.To(r, s.CR[api.CRoot], api.Entries, s.PS, a.Addr, a.Kind)
		if !is {
			return s, false
		}
		for k := range uint32(a.Size) {
			b, _ := r.Byte(at + k)
			v |= uint32(b) << (8 * k)
		}
	}
	n, f := core.Do(s, i, v)
	return n, f.Cause == 0
}

// runs lets a machine do a block's instructions, and answers how many it did, and
// whether that is all of them.
func runs(t *testing.T, m *machine.Machine, b api.Block) (int, bool) {
	t.Helper()
	was := flat(m.RAM())
	for k, i := range b.Ins {
		ahead := m.State()
		if ahead.PC != b.At[k] {
			t.Fatalf("the machine comes to %d, not to the instruction %d of %v", ahead.PC, k, b)
		}
		before := m.RAM().Copy()
		f := m.One()
		want, is := doneBy(before, ahead, i, m.State().R[i.A])
		if is != (f.Cause == 0) || is && m.State() != want {
			t.Fatalf("the instruction %d of %v: the machine comes to %+v, %+v, want %+v, %t", k, b, m.State(), f, want, is)
		}
		if !is {
			return k, false
		}
		if !stays(was, flat(m.RAM()), b) {
			return k + 1, false
		}
	}
	return len(b.Ins), true
}

// TestP18_3TheMachine does a block's instructions in their order, and comes
// behind them to Next or To.
func TestP18_3TheMachine(t *testing.T) {
	x := rand.New(rand.NewSource(183))
	var whole [5]int
	long, cut, turned := 0, 0, [2]int{}
	for range 12000 {
		r, s, _, b := drawn(t, x, 3)
		m, e := machine.Over(r, s, nil, nil)
		if e != api.OK {
			t.Fatal(int(e))
		}
		done, is := runs(t, m, b)
		if !is {
			cut++
			continue
		}
		whole[b.End]++
		if done > 10 {
			long++
		}
		now, want := m.State(), b.Next
		switch b.End {
		case api.EndAsk:
			continue
		case api.EndJump:
			want = b.To
		case api.EndBranch:
			holds := flags.Holds(int(b.Ins[done-1].Op-api.OJmp), now.PS)
			turned[0]++
			if holds {
				want = b.To
				turned[1]++
			}
		}
		if now.PC != want {
			t.Fatalf("behind %v the machine comes to %d", b, now.PC)
		}
	}
	for end := api.EndNext; end <= api.EndAsk; end++ {
		if whole[end] < 100 {
			t.Errorf("%d blocks of the end %d were done whole", whole[end], end)
		}
	}
	if long < 100 || cut < 100 || turned[1] < 50 || turned[0]-turned[1] < 50 {
		t.Errorf("%d long blocks, %d cut short, %d branches of which %d were taken", long, cut, turned[0], turned[1])
	}
}

// TestP18_3OneByOne: a block of many is those of one each, behind one another.
func TestP18_3OneByOne(t *testing.T) {
	x := rand.New(rand.NewSource(184))
	for range 1500 {
		r, s, _, b := drawn(t, x, 3)
		for k, i := range b.Ins {
			s.PC = b.At[k]
			one, f := scans(t, r, s, 1)
			if f.Cause != 0 || len(one.Ins) != 1 || one.Ins[0] != i {
				t.Fatalf("the instruction %d of %v: %v, %+v", k, b, one, f)
			}
			if k == len(b.Ins)-1 && (one.Next != b.Next || one.To != b.To || one.End != b.End) {
				t.Fatalf("the last instruction of %v: %v", b, one)
			}
			for _, n := range one.Frames {
				if !slices.Contains(b.Frames, n) {
					t.Fatalf("the instruction %d of %v: %v", k, b, one)
				}
			}
		}
	}
}

// TestP18_3AtOneTime (R4): scans that are made at one time have nothing in
// common.
func TestP18_3AtOneTime(t *testing.T) {
	x := rand.New(rand.NewSource(185))
	r := drawMemory(t, x, 16, 3)
	states := make([]api.State, 64)
	blocks, faults := make([]api.Block, len(states)), make([]api.Fault, len(states))
	for k := range states {
		states[k] = drawState(x, 16)
	}
	var group sync.WaitGroup
	for k, s := range states {
		group.Go(func() { blocks[k], faults[k] = scan.Scan(r, s, 32) })
	}
	group.Wait()
	for k, s := range states {
		b, f := scans(t, r, s, 32)
		if f != faults[k] || differs(b, blocks[k]) != "" {
			t.Fatalf("from %d on: %v, %+v, want %v, %+v", s.PC, blocks[k], faults[k], b, f)
		}
	}
}
