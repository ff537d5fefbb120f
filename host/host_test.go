package host_test

import (
	"bytes"
	"math"
	"testing"

	"mummer/api"
	"mummer/host"
	"mummer/ram"
)

func TestExamples(t *testing.T) {
	g := of(t, memory(t, 4), 4)
	g.word(t, 0, 64+7)
	g.word(t, 64, 128+7)
	g.fill(t, 128, 0x70, 2, 0x10, 0x12, 0x71, 5, 0)
	g.load(t, api.State{})
	g.tally(t, true, 9)
	g.ends(t, 9, api.Exit{Kind: api.XLeave, Addr: 5, N: 2})
	if pc, n := g.h.State().PC, g.h.Count(); pc != 4 || n != 2 {
		t.Errorf("PC %d, Count %d, want 4, 2", pc, n)
	}
	g.tally(t, true, 2)
	g.load(t, api.State{})
	g.ends(t, 9, api.Exit{Kind: api.XTally, N: 1})
	if pc := g.h.State().PC; pc != 2 {
		t.Errorf("PC %d, want 2", pc)
	}
	g.load(t, api.State{})
	g.tally(t, false, 2)
	g.ends(t, 9, api.Exit{Kind: api.XFault, Cause: api.Undecodable})
}

func TestP17_1New(t *testing.T) {
	for _, frames := range []int{1, 2, 64, 512} {
		for slots := 1; slots <= 64; slots++ {
			r := memory(t, frames)
			r.Fill(0, bytes.Repeat([]byte{7, 1}, 32))
			was := flat(r)
			g := of(t, r, slots)
			g.hold(t)
			if s, n, l := g.h.State(), g.h.Count(), g.h.Touched(); s != (api.State{}) || n != 0 || len(l) != 0 {
				t.Fatalf("a new one has %+v, %d, %v", s, n, l)
			}
			if !bytes.Equal(flat(r), was) {
				t.Fatal("New turned the memory")
			}
		}
	}
}

func TestP17_1NoMemory(t *testing.T) {
	// The memory is asked ahead of the slots.
	for name, r := range map[string]*ram.RAM{"a nil RAM": nil, "a RAM that no call made": {}} {
		for _, slots := range []int{math.MinInt, -1, 0, 1, 64, 65, math.MaxInt} {
			if h, e := host.New(r, slots); h != nil || e != api.ErrNil {
				t.Errorf("New(%s, %d): %v, %d", name, slots, h != nil, int(e))
			}
		}
	}
}

func TestP17_1NoSlots(t *testing.T) {
	r := memory(t, 4)
	for _, slots := range []int{math.MinInt, -64, -1, 0, 65, 66, 128, math.MaxInt} {
		if h, e := host.New(r, slots); h != nil || e != api.ErrArg {
			t.Errorf("New(.., %d): %v, %d", slots, h != nil, int(e))
		}
	}
}

// full is a state of which no two numbers are one.
func full(ps uint32, halted bool) api.State {
	s := api.State{PC: 0xfedcba98, PS: ps, Halted: halted}
	for k := range s.R {
		s.R[k], s.CR[k] = uint32(k)*0x01010101+3, uint32(k)*0x10101010+9
	}
	return s
}

func TestP17_1Load(t *testing.T) {
	g := of(t, memory(t, 1), 1)
	for _, ps := range []uint32{0, 1, 2, 3, 4, 5, 6, 7, 8, 0xf0, 0xf2, 0xf7, 0xff, 1 << 31, 0xfffffff0, math.MaxUint32} {
		for _, halted := range []bool{false, true} {
			s := full(ps, halted)
			want := s
			want.PS, want.Halted = ps|api.PUser|api.PPage, false
			g.h.Load(s)
			if n := g.h.State(); n != want {
				t.Errorf("behind Load(%+v): %+v", s, n)
			}
		}
	}
	g.h.Load(api.State{})
	if n := g.h.State(); n != (api.State{PS: 5}) {
		t.Errorf("behind a Load of noughts: %+v", n)
	}
}

func TestP17_1ALoadedHostRuns(t *testing.T) {
	// It was halted, and in the system's ring without paging: it is none of these here.
	for _, ps := range []uint32{0, api.PUser, api.PPage, api.PInt | api.FMask} {
		g := paged(t)
		g.program(t, 5*64, api.Ins{Op: api.OSt, A: 1, B: 2, Imm: 0}, api.Ins{Op: api.OHlt})
		s := api.State{PS: ps, Halted: true}
		s.R[1], s.R[2] = 0x01020304, 64
		g.load(t, s)
		g.ends(t, 9, api.Exit{Kind: api.XFault, Cause: api.Forbidden, N: 1})
		g.has(t, 6*64, 4)
	}
}

func TestP17_1LoadTurnsTheStateAlone(t *testing.T) {
	g := paged(t)
	g.program(t, 5*64, api.Ins{Op: api.OTally, Imm: 3}, api.Ins{Op: api.OLd, A: 1, B: 2}, api.Ins{Op: api.OTally, Imm: 3})
	g.set(t, func(s *api.State) { s.R[2] = 64 })
	g.tally(t, true, 6)
	g.spends(t, 2)
	// The tables are gone, and another directory is told, but the ways are known.
	g.fill(t, 0, make([]byte, 64)...)
	g.set(t, func(s *api.State) { s.CR[api.CRoot] = 9 * 64 })
	g.at(t, 2)
	g.ends(t, 9, api.Exit{Kind: api.XTally, N: 2})
	if n := g.h.Count(); n != 6 {
		t.Errorf("Count is %d, want 6", n)
	}
	g.touches(t, 6)
}

func TestP17_1Flush(t *testing.T) {
	g := paged(t)
	g.program(t, 5*64, api.Ins{Op: api.OLdb, A: 1, B: 2}, api.Ins{Op: api.OTally, Imm: 3}, api.Ins{Op: api.OJmp, Imm: -8})
	g.fill(t, 6*64, 61)
	g.fill(t, 7*64, 71)
	g.set(t, func(s *api.State) { s.R[2] = 64 })
	g.tally(t, true, 100)
	g.spends(t, 3)
	g.page(t, 64, 7, all)
	for _, behind := range []uint32{61, 71} {
		g.spends(t, 3)
		if n := g.h.State().R[1]; n != behind {
			t.Errorf("%d was read, want %d", n, behind)
		}
		// A second flush forgets no more than a first one, and no flush anything else.
		g.flush(t)
		g.flush(t)
	}
	g.touches(t, 6, 7)
	if n := g.h.Count(); n != 9 {
		t.Errorf("Count is %d, want 9", n)
	}
}

func TestP17_1Touched(t *testing.T) {
	g := paged(t)
	// Fetching touches nothing: the code lies in frame 5.
	g.program(t, 5*64,
		api.Ins{Op: api.OMov, A: 1, B: 2},
		api.Ins{Op: api.OLdb, A: 1, B: 4, Imm: 1},
		api.Ins{Op: api.OPush, A: 1},
		api.Ins{Op: api.OLd, A: 1, B: 4, Imm: 8},
		api.Ins{Op: api.OXchg, A: 1, B: 5},
		api.Ins{Op: api.OLdsh, A: 1, B: 2},
		api.Ins{Op: api.OSth, A: 1, B: 6})
	g.set(t, func(s *api.State) {
		s.R[4], s.R[5], s.R[6], s.R[7] = 64*4, 64*2, 64*3, 64*2
	})
	for _, want := range [][]int{{}, {9}, {6, 9}, {6, 9}, {6, 7, 9}, {5, 6, 7, 9}, {5, 6, 7, 8, 9}} {
		g.spends(t, 1)
		g.touches(t, want...)
	}
	g.flush(t)
	g.tally(t, true, 1)
	g.load(t, api.State{})
	g.touches(t, 5, 6, 7, 8, 9)
	g.forget(t)
	g.touches(t)
	// Fetched, and no more.
	g.spends(t, 1)
	g.touches(t)
	g.set(t, func(s *api.State) { s.R[4] = 64 })
	g.spends(t, 1)
	g.touches(t, 6)
	g.forget(t)
	g.forget(t)
	g.touches(t)
}

func TestP17_1TablesAreNotTouched(t *testing.T) {
	// The walk reads entries in frame 2, and soils one there; no instruction does.
	g := paged(t)
	g.program(t, 5*64, api.Ins{Op: api.OSt, A: 1, B: 2}, api.Ins{Op: api.OLd, A: 1, B: 3})
	g.set(t, func(s *api.State) { s.R[2], s.R[3] = 64, 64*5+4 })
	g.spends(t, 1)
	g.touches(t, 6)
	g.has(t, 2*64+4, 0x97) // the lowest byte of 6*64 and all and EDirty
	// But as a page they may be: here frame 2 is the page at 320.
	g.spends(t, 1)
	g.touches(t, 2, 6)
	if w := g.h.State().R[1]; w != 6*64|all|api.EDirty {
		t.Errorf("the entry is %#x", w)
	}
}

func TestP17_1WhatFailsTouchesNothing(t *testing.T) {
	g := paged(t)
	g.page(t, 64, 6, api.EThere|api.EUser)
	g.program(t, 5*64, api.Ins{Op: api.OSt, A: 1, B: 2})
	g.set(t, func(s *api.State) { s.R[2] = 64 })
	g.fails(t, api.NoWrite, 64)
	g.set(t, func(s *api.State) { s.R[2] = 129 })
	g.fails(t, api.Misaligned, 129)
	g.touches(t)
}

func TestP17_1TouchedIsTheCallersOwn(t *testing.T) {
	g := paged(t)
	g.program(t, 5*64, api.Ins{Op: api.OLd, A: 1, B: 2}, api.Ins{Op: api.OPush, A: 1})
	g.set(t, func(s *api.State) { s.R[7] = 128 })
	g.spends(t, 2)
	a, b := g.h.Touched(), g.h.Touched()
	a[0], a = 77, append(a[:1], 78)
	if len(b) != 2 || b[0] != 5 || b[1] != 6 {
		t.Errorf("one answer's turning turned another: %v", b)
	}
	g.touches(t, 5, 6)
}

func TestP17_1TheMemoryIsUsedAsItIs(t *testing.T) {
	// A window: frames are its own, wherever they lie in the memory behind it.
	r := memory(t, 20)
	w, e := r.Window([]int{19, 4, 9, 2, 11})
	if e != api.OK {
		t.Fatal(int(e))
	}
	g := of(t, w, 8)
	g.word(t, 0, 1*64|all)
	g.word(t, 64, 2*64|all)
	g.word(t, 68, 4*64|all)
	g.program(t, 2*64, api.Ins{Op: api.OStb, A: 1, B: 2, Imm: 3})
	g.load(t, api.State{R: [8]uint32{1: 0x1ee, 2: 64}})
	g.spends(t, 1)
	g.touches(t, 4)
	if b, _ := r.Byte(11*64 + 3); b != 0xee {
		t.Errorf("behind the window there is %#x", b)
	}
	// What others lay is read there.
	r.SetByte(9*64, api.OJmp)
	g.p.mem[2*64] = api.OJmp
	g.at(t, 0)
	g.spends(t, 1)
}

func TestP17_2TheTallyIsOff(t *testing.T) {
	for _, i := range []api.Ins{{Op: api.OTally}, {Op: api.OTally, Imm: 255}, {Op: api.OLeave}, {Op: api.OLeave, Imm: 65535}} {
		g := paged(t)
		g.program(t, 5*64, i)
		g.fails(t, api.Undecodable, 0)
		g.tally(t, true, 300)
		if x := g.runs(t, 1); x.Cause != 0 {
			t.Errorf("%+v while the tally is on: %+v", i, x)
		}
		g.at(t, 0)
		g.tally(t, false, 300)
		g.fails(t, api.Undecodable, 0)
	}
}

func TestP17_2CountAndLimit(t *testing.T) {
	for _, limit := range []int{math.MinInt, -300, -1, 0, 1, 2, 254, 255, 256, 510, 511, math.MaxInt} {
		for _, imm := range []int32{0, 1, 2, 255} {
			g := paged(t)
			g.program(t, 5*64, api.Ins{Op: api.OTally, Imm: imm}, api.Ins{Op: api.OTally, Imm: imm}, api.Ins{Op: api.OLeave, Imm: 9})
			g.tally(t, true, limit)
			if n := g.h.Count(); n != 0 {
				t.Fatalf("at first the count is %d", n)
			}
			count := 0
			for range 2 {
				count += int(imm)
				if count >= limit {
					g.ends(t, 9, api.Exit{Kind: api.XTally, N: 1})
				} else {
					g.spends(t, 1)
				}
				if n := g.h.Count(); n != count {
					t.Fatalf("limit %d, %d more: the count is %d, want %d", limit, imm, n, count)
				}
			}
			g.stays(t, 9, api.Exit{Kind: api.XLeave, Addr: 9})
		}
	}
}

func TestP17_2TheCountIsKept(t *testing.T) {
	g := paged(t)
	g.program(t, 5*64, api.Ins{Op: api.OTally, Imm: 200}, api.Ins{Op: api.OJmp, Imm: -5})
	g.tally(t, true, 1000)
	for k := range 4 {
		g.spends(t, 2)
		g.flush(t)
		g.forget(t)
		g.at(t, 0)
		if n := g.h.Count(); n != 200*(k+1) {
			t.Fatalf("the count is %d", n)
		}
	}
	g.ends(t, 2, api.Exit{Kind: api.XTally, N: 1})
	// It goes on beyond the limit, and ends each run there.
	g.ends(t, 2, api.Exit{Kind: api.XTally, N: 2})
	if n := g.h.Count(); n != 1200 {
		t.Errorf("the count is %d, want 1200", n)
	}
	// A limit below the count counts from the next tally on alone.
	g.at(t, 2)
	g.spends(t, 1)
	for _, on := range []bool{true, false, true} {
		g.tally(t, on, 7)
		if n := g.h.Count(); n != 0 {
			t.Errorf("behind Tally(%t) the count is %d", on, n)
		}
	}
	g.ends(t, 9, api.Exit{Kind: api.XTally, N: 1})
}

func TestP17_2TallyTurnsNothingElse(t *testing.T) {
	g := paged(t)
	g.program(t, 5*64, api.Ins{Op: api.OLd, A: 1, B: 2}, api.Ins{Op: api.ONop})
	g.set(t, func(s *api.State) { s.R[2] = 64 })
	g.spends(t, 1)
	g.fill(t, 0, make([]byte, 64)...)
	g.tally(t, true, 1)
	g.touches(t, 6)
	g.spends(t, 1) // the way is known still
	if n := g.h.Count(); n != 0 {
		t.Errorf("the count is %d", n)
	}
}

// unmade are the hosts that New did not make.
func unmade() map[string]*host.Host {
	return map[string]*host.Host{"a nil Host": nil, "a Host that New did not make": {}}
}

func TestP17_4Unmade(t *testing.T) {
	for name, h := range unmade() {
		t.Run(name, func(t *testing.T) {
			for range 2 {
				h.Load(full(0xf7, true))
				h.Tally(true, -1)
				for _, n := range []int{math.MinInt, -1, 0, 1, 4096, 4097, math.MaxInt} {
					if x := h.Run(n); x != (api.Exit{}) {
						t.Errorf("Run(%d) is %+v", n, x)
					}
				}
				h.Flush()
				if s, n, l := h.State(), h.Count(), h.Touched(); s != (api.State{}) || n != 0 || len(l) != 0 {
					t.Errorf("State, Count, Touched are %+v, %d, %v", s, n, l)
				}
				h.Forget()
			}
		})
	}
}
