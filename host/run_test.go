package host_test

import (
	"bytes"
	"math"
	"testing"

	"mummer/api"
	"mummer/isa"
)

func TestP17_3HowMany(t *testing.T) {
	for _, n := range []int{math.MinInt, -4097, -1, 0, 1, 2, 3, 100, 4095, 4096, 4097, 5000, math.MaxInt} {
		g := paged(t)
		g.program(t, 5*64, api.Ins{Op: api.OAddi, A: 1, Imm: 1}, api.Ins{Op: api.OJmp, Imm: -6})
		done := min(max(n, 0), 4096)
		g.ends(t, n, api.Exit{Kind: api.XSpent, N: done})
		s := api.State{PS: 5, PC: uint32(done % 2 * 3)}
		if s.R[1] = uint32((done + 1) / 2); g.h.State() != s {
			t.Errorf("behind Run(%d): %+v", n, g.h.State())
		}
	}
}

// TestP17_3NothingOfNone: a run of none fetches nothing, so that no way is known
// behind it, and no fault comes.
func TestP17_3NothingOfNone(t *testing.T) {
	for _, n := range []int{math.MinInt, -1, 0} {
		g := paged(t)
		g.fill(t, 5*64, 4)
		g.stays(t, n, api.Exit{Kind: api.XSpent})
		g.fill(t, 0, 0)
		g.fails(t, api.NoFetch, 0)
		g.stays(t, n, api.Exit{Kind: api.XSpent})
	}
}

func TestP17_3SpentComesAheadOfFaults(t *testing.T) {
	for _, i := range []api.Ins{{Op: api.OLeave}, {Op: api.OTrap}, {Op: api.OHlt}, {Op: api.ODiv}, {Op: api.OTally}} {
		g := paged(t)
		g.tally(t, true, 0)
		g.program(t, 5*64, api.Ins{Op: api.ONop}, i)
		g.spends(t, 1)
		g.stays(t, 0, api.Exit{Kind: api.XSpent})
		if x := g.runs(t, 1); x.Kind == api.XSpent {
			t.Errorf("%+v: %+v", i, x)
		}
	}
}

func TestP17_3EachEndTellsHowMany(t *testing.T) {
	ends := map[uint8]api.Exit{
		api.OLeave: {Kind: api.XLeave, Addr: 7},
		api.OTrap:  {Kind: api.XTrap, Addr: 7},
		api.OTally: {Kind: api.XTally, N: 1},
		api.OHlt:   {Kind: api.XFault, Cause: api.Forbidden},
		api.ORem:   {Kind: api.XFault, Cause: api.Division},
		api.OLd:    {Kind: api.XFault, Cause: api.NoRead, Addr: 1020},
		api.OPush:  {Kind: api.XFault, Cause: api.NoWrite, Addr: 1020},
		api.OSth:   {Kind: api.XFault, Cause: api.Misaligned, Addr: 1025},
	}
	for op, want := range ends {
		for ahead := range 20 {
			g := paged(t)
			g.tally(t, true, 7)
			g.set(t, func(s *api.State) { s.R[6], s.R[7] = 1020, 1024 })
			i := map[uint8]api.Ins{api.OLeave: {Imm: 7}, api.OTrap: {Imm: 7}, api.OTally: {Imm: 7}, api.OLd: {B: 6}, api.OSth: {B: 7, Imm: 1}}[op]
			i.Op = op
			g.program(t, 5*64+uint32(ahead), i)
			want := want
			want.N += ahead
			g.ends(t, 4000, want)
			pc := uint32(ahead)
			if op == api.OTally {
				pc += 2
			}
			if n := g.h.State().PC; n != pc {
				t.Errorf("%+v: PC is %d, want %d", i, n, pc)
			}
		}
	}
}

func TestP17_3FetchNowhere(t *testing.T) {
	for _, entry := range []uint32{0, 6 * 64, 6*64 | all&^api.EThere, 6*64 | api.EThere, 6*64 | api.EThere | api.EWrite,
		6*64 | api.EThere | api.EWrite | api.ECode, 10*64 | all, 1<<31 | all, 0xffffffc0 | all} {
		g := paged(t)
		g.word(t, 2*64+4, entry)
		for _, pc := range []uint32{64, 65, 127} {
			g.at(t, pc)
			g.fails(t, api.NoFetch, pc)
		}
	}
	g := paged(t)
	for _, pc := range []uint32{960, 1024, 2048, 16383, 16384, 32767, 32768, 1 << 31, math.MaxUint32} {
		g.at(t, pc)
		g.fails(t, api.NoFetch, pc)
	}
}

func TestP17_3FetchMay(t *testing.T) {
	for _, bits := range []uint32{all, api.EThere | api.EUser, all | api.ECode, api.EThere | api.EUser | api.ECode, 63} {
		g := paged(t)
		g.page(t, 64, 6, bits)
		g.page(t, 128, 7, bits)
		g.program(t, 6*64+60, api.Ins{Op: api.OMov, A: 1, B: 2}, api.Ins{Op: api.OJmp, Imm: -5})
		g.at(t, 124)
		g.spends(t, 20)
		g.touches(t)
	}
}

// TestP17_3FetchOverTwoPages: instructions of each size, with so many bytes on
// the second page, which is there or not.
func TestP17_3FetchOverTwoPages(t *testing.T) {
	for _, i := range []api.Ins{{Op: api.OMov, A: 3, B: 4}, {Op: api.OAddi, A: 3, Imm: 1}, {Op: api.OTally, Imm: 1}, {Op: api.OLdi, A: 3, Imm: 0x01020304}, {Op: api.OLeave, Imm: 258}} {
		b := code(t, i)
		for behind := range uint32(len(b)) {
			for _, second := range []uint32{0, 9*64 | api.EThere, 10*64 | all, 9*64 | all, 9*64 | api.EThere | api.EUser | api.ECode} {
				g := paged(t)
				g.tally(t, true, 9)
				g.word(t, 2*64+8, second)
				first := uint32(len(b)) - behind
				g.fill(t, 7*64-first, b[:first]...)
				g.fill(t, 9*64, b[first:]...)
				g.at(t, 128-first)
				if within := second/64 == 9 && second&api.EUser != 0; behind > 0 && !within {
					g.fails(t, api.NoFetch, 128)
				} else if i.Op == api.OLeave {
					g.stays(t, 1, api.Exit{Kind: api.XLeave, Addr: 258})
				} else {
					g.spends(t, 1)
				}
			}
		}
	}
}

func TestP17_3FetchOverTheLastPage(t *testing.T) {
	// The last page that a directory of 32 entries reaches, and nothing behind it.
	g := paged(t)
	g.page(t, 32767, 6, all)
	g.program(t, 7*64-4, api.Ins{Op: api.OMov}, api.Ins{Op: api.OLdi})
	g.at(t, 32764)
	g.spends(t, 1)
	g.fails(t, api.NoFetch, 32768)
}

func TestP17_3Undecodable(t *testing.T) {
	for op := range 256 {
		for _, on := range []bool{false, true} {
			if isa.Size(uint8(op), on) > 0 {
				continue
			}
			g := paged(t)
			g.tally(t, on, 9)
			// Nothing behind it is fetched: there is no second page.
			g.page(t, 64, 0, 0)
			g.fill(t, 6*64-1, byte(op))
			g.at(t, 63)
			g.fails(t, api.Undecodable, 63)
		}
	}
}

func TestP17_3RefusedWhenDecoded(t *testing.T) {
	for _, b := range [][]byte{{api.OMov, 0x80}, {api.OMov, 0x08}, {api.OTst, 0xff}, {api.OLdi, 0x01}, {api.OAddi, 0x0f, 1}, {api.OPush, 0x71}, {api.OLd, 0x90, 0},
		{api.ORdps, 0x31}, {api.OWrcr, 0x08}, {api.OJr, 0x80}, {api.OXchg, 0x19}} {
		g := paged(t)
		g.fill(t, 5*64+8, b...)
		g.at(t, 8)
		g.fails(t, api.Undecodable, 8)
		// All bytes are fetched ahead of that.
		b = append(b, 0, 0, 0, 0)[:isa.Size(b[0], false)]
		g.fill(t, 6*64-uint32(len(b))+1, b[:len(b)-1]...)
		g.fill(t, 6*64, b[len(b)-1])
		g.at(t, 64-uint32(len(b))+1)
		g.fails(t, api.Undecodable, 64-uint32(len(b))+1)
		g.page(t, 64, 0, 0)
		g.flush(t)
		g.fails(t, api.NoFetch, 64)
	}
}

func TestP17_3LeaveAndTrap(t *testing.T) {
	for _, imm := range []int32{0, 1, 255, 256, 4660, 32767, 32768, 65535} {
		g := paged(t)
		g.tally(t, true, 0)
		g.program(t, 5*64, api.Ins{Op: api.OLeave, Imm: imm})
		g.stays(t, 3, api.Exit{Kind: api.XLeave, Addr: uint32(imm)})
		g.stays(t, 1, api.Exit{Kind: api.XLeave, Addr: uint32(imm)})
		if imm > 255 {
			continue
		}
		for _, on := range []bool{true, false} {
			g.tally(t, on, 0)
			g.program(t, 5*64, api.Ins{Op: api.OTrap, Imm: imm})
			g.stays(t, 3, api.Exit{Kind: api.XTrap, Addr: uint32(imm)})
		}
	}
}

func TestP17_3TallyAtTheLimit(t *testing.T) {
	tallies := []api.Ins{{Op: api.OTally, Imm: 4}, {Op: api.OTally, Imm: 0}, {Op: api.OTally, Imm: 5}, {Op: api.ONop}}
	for limit := range 12 {
		g := paged(t)
		g.tally(t, true, limit)
		g.program(t, 5*64, tallies...)
		for k, count := range []int{4, 4, 9} {
			if count >= limit {
				// N counts it, also where it is the last one that is asked for.
				g.ends(t, 1, api.Exit{Kind: api.XTally, N: 1})
			} else {
				g.spends(t, 1)
			}
			if n, pc := g.h.Count(), g.h.State().PC; n != count || pc != uint32(2*k+2) {
				t.Fatalf("limit %d: Count %d, PC %d behind %d tallies", limit, n, pc, k+1)
			}
		}
		g.spends(t, 1)
	}
}

func TestP17_3TallyTurnsPCAndTheCountAlone(t *testing.T) {
	g := paged(t)
	g.tally(t, true, 9)
	g.program(t, 5*64, api.Ins{Op: api.OTally, Imm: 8})
	s := full(0xf7, false)
	s.PC, s.CR[api.CRoot] = 0, 0
	g.load(t, s)
	g.spends(t, 1)
	if s.PC = 2; g.h.State() != s {
		t.Errorf("behind a tally: %+v", g.h.State())
	}
	g.touches(t)
}

func TestP17_3SenseWithACause(t *testing.T) {
	for _, i := range []api.Ins{{Op: api.OHlt}, {Op: api.OWrcr, A: 1}, {Op: api.OWrcr, A: 1, B: 7}, {Op: api.OIn, A: 1}, {Op: api.OIn, A: 2, B: 6}, {Op: api.OOut, A: 1, B: 4}} {
		for _, on := range []bool{false, true} {
			g := paged(t)
			g.tally(t, on, 9)
			g.program(t, 5*64+20, i)
			g.at(t, 20)
			g.fails(t, api.Forbidden, 0)
		}
	}
}

func TestP17_3SenseWithout(t *testing.T) {
	was := full(0xa2, false)
	was.PC, was.CR[api.CRoot] = 0, 0
	for _, c := range []struct {
		i    api.Ins
		turn func(s *api.State)
	}{
		{api.Ins{Op: api.OIret}, func(s *api.State) { s.PC = 1 }},
		{api.Ins{Op: api.OFlush}, func(s *api.State) { s.PC = 1 }},
		{api.Ins{Op: api.ORdps, A: 3}, func(s *api.State) { s.PC, s.R[3] = 2, 0xa7 }},
		{api.Ins{Op: api.OWrps, A: 5}, func(s *api.State) { s.PC, s.PS = 2, 7 }},
		{api.Ins{Op: api.ORdcr, A: 4, B: 6}, func(s *api.State) { s.PC, s.R[4] = 2, 0 }},
	} {
		g := paged(t)
		g.program(t, 5*64, c.i)
		g.load(t, was)
		g.spends(t, 1)
		want := was
		want.PS |= 5
		if c.turn(&want); g.h.State() != want {
			t.Errorf("behind %+v:\n%+v, want\n%+v", c.i, g.h.State(), want)
		}
	}
}

// TestP17_3FlushOfTheGuests: in the user ring OFlush forgets nothing.
func TestP17_3FlushOfTheGuests(t *testing.T) {
	g := paged(t)
	g.program(t, 5*64, api.Ins{Op: api.OFlush}, api.Ins{Op: api.OFlush}, api.Ins{Op: api.ONop})
	g.spends(t, 1)
	g.fill(t, 0, 0)
	g.spends(t, 2)
	g.flush(t)
	g.fails(t, api.NoFetch, 3)
}

// TestP17_3NeverLoaded: a host runs in the user ring also before any Load.
func TestP17_3NeverLoaded(t *testing.T) {
	for _, i := range []api.Ins{{Op: api.OHlt}, {Op: api.OIn}, {Op: api.OOut}, {Op: api.OWrcr, A: 1}} {
		g := of(t, memory(t, 4), 4)
		g.word(t, 0, 1*64|all)
		g.word(t, 64, 2*64|all)
		g.program(t, 2*64, api.Ins{Op: api.OLdi, A: 1, Imm: 9}, i)
		if x := g.h.Run(9); (x != api.Exit{Kind: api.XFault, Cause: api.Forbidden, N: 1}) {
			t.Errorf("%+v of one that was never loaded: %+v", i, x)
		}
		if s := g.h.State(); s.R[1] != 9 || s.PC != 6 || s.Halted || s.CR != [8]uint32{} {
			t.Errorf("%+v of one that was never loaded: %+v", i, s)
		}
	}
	g := of(t, memory(t, 4), 4)
	g.ends(t, 9, api.Exit{Kind: api.XFault, Cause: api.NoFetch})
	g.word(t, 0, 1*64|all)
	g.word(t, 64, 2*64|api.EThere|api.EWrite)
	g.ends(t, 9, api.Exit{Kind: api.XFault, Cause: api.NoFetch})
}

// movers are the instructions with an access, whose address is register 5 and
// Imm, or register 7.
func movers() []api.Ins {
	var list []api.Ins
	for op := api.OLd; op <= api.OLdsh; op++ {
		list = append(list, api.Ins{Op: op, A: 1, B: 5})
	}
	return append(list, api.Ins{Op: api.OPush, A: 1}, api.Ins{Op: api.OPop, A: 1}, api.Ins{Op: api.OXchg, A: 1, B: 5})
}

// reader says whether an instruction of movers reads alone, and how many bytes.
func reader(op uint8) (bool, uint32) {
	switch op {
	case api.OLd, api.OPop:
		return true, 4
	case api.OLdh, api.OLdsh:
		return true, 2
	case api.OLdb, api.OLdsb:
		return true, 1
	case api.OSth:
		return false, 2
	case api.OStb:
		return false, 1
	}
	return false, 4
}

// aims loads a state whose access goes to an address.
func (g *rig) aims(t *testing.T, op uint8, to uint32) {
	t.Helper()
	g.set(t, func(s *api.State) {
		s.PC = 0
		s.R[1], s.R[5], s.R[7] = 0x81828384, to, to
		if op == api.OPush {
			s.R[7] = to + 4
		}
	})
}

func TestP17_3AccessByItsBits(t *testing.T) {
	for _, i := range movers() {
		reads, _ := reader(i.Op)
		for bits := range uint32(64) {
			for _, high := range []uint32{all, all &^ api.EWrite, all &^ api.EUser, all | api.ECode, all | api.EDirty, all &^ api.EThere} {
				g := paged(t)
				g.program(t, 5*64, i)
				g.word(t, 4, 3*64|high)
				g.page(t, 1024, 6, bits)
				g.fill(t, 6*64+8, 0xf1, 0xf2, 0xf3, 0xf4)
				g.aims(t, i.Op, 1032)
				both := bits & high
				may := both&(api.EThere|api.EUser) == api.EThere|api.EUser && (bits|high)&api.ECode == 0
				switch {
				case reads && may, !reads && may && both&api.EWrite != 0:
					g.spends(t, 1)
					g.touches(t, 6)
					soiled := byte(0)
					if !reads {
						soiled = byte(api.EDirty)
					}
					g.has(t, 3*64, 0x80|byte(bits)|soiled)
				case reads:
					g.fails(t, api.NoRead, 1032)
				default:
					g.fails(t, api.NoWrite, 1032)
				}
			}
		}
	}
}

func TestP17_3AccessNowhere(t *testing.T) {
	for _, i := range movers() {
		reads, _ := reader(i.Op)
		cause := api.NoWrite
		if reads {
			cause = api.NoRead
		}
		g := paged(t)
		g.program(t, 5*64, i)
		g.page(t, 1024, 10, all)
		for _, to := range []uint32{384, 960, 1024, 1084, 2048, 16384, 31744, 32764, 32768, 1 << 31, 0xfffffffc} {
			g.aims(t, i.Op, to)
			g.fails(t, cause, to)
		}
		// No page of the upper half is another than those below.
		g.page(t, 31744, 6, all)
		g.aims(t, i.Op, 31744)
		g.spends(t, 1)
		g.touches(t, 6)
	}
}

func TestP17_3MisalignedComesFirst(t *testing.T) {
	for _, i := range movers() {
		_, size := reader(i.Op)
		for _, to := range []uint32{64, 65, 66, 67, 125, 126, 127, 961, 32769, 0xfffffffd, 0xfffffffe, 0xffffffff} {
			g := paged(t)
			g.program(t, 5*64, i)
			g.aims(t, i.Op, to)
			switch {
			case to%size != 0:
				g.fails(t, api.Misaligned, to)
			case to < 128:
				g.spends(t, 1)
			}
		}
	}
}

// TestP17_3WhatIsMoved: bytes lie where they should, and no others turn.
func TestP17_3WhatIsMoved(t *testing.T) {
	for _, i := range movers() {
		reads, size := reader(i.Op)
		for to := uint32(64); to < 128; to += size {
			g := paged(t)
			g.program(t, 5*64, i)
			g.fill(t, 6*64, bytes.Repeat([]byte{0xf1, 0xf2, 0xf3, 0xf4}, 16)...)
			g.aims(t, i.Op, to)
			was := flat(g.r)
			g.spends(t, 1)
			for k := range uint32(4) {
				if at := 5*64 + to + k; !reads && k < size {
					was[at] = byte(0x84 - k)
				}
			}
			if !reads {
				was[2*64+4] |= byte(api.EDirty)
			}
			if !bytes.Equal(flat(g.r), was) {
				t.Fatalf("%+v at %d: the memory is % x", i, to, flat(g.r))
			}
		}
	}
	g := paged(t)
	g.fill(t, 6*64, 0xf1, 0xf2, 0xf3, 0xf4)
	for op, want := range map[uint8]uint32{api.OLd: 0xf4f3f2f1, api.OPop: 0xf4f3f2f1, api.OLdb: 0xf1, api.OLdh: 0xf2f1, api.OLdsb: 0xfffffff1, api.OLdsh: 0xfffff2f1, api.OXchg: 0xf4f3f2f1} {
		for _, i := range movers() {
			if i.Op == op {
				g.program(t, 5*64, i)
				g.fill(t, 6*64, 0xf1, 0xf2, 0xf3, 0xf4)
				g.aims(t, op, 64)
				g.spends(t, 1)
				if n := g.h.State().R[1]; n != want {
					t.Errorf("%+v: %#x, want %#x", i, n, want)
				}
			}
		}
	}
}

func TestP17_3Division(t *testing.T) {
	for _, op := range []uint8{api.ODiv, api.ORem} {
		g := paged(t)
		g.program(t, 5*64+9, api.Ins{Op: op, A: 1, B: 2})
		g.set(t, func(s *api.State) { s.PC, s.R[1] = 9, 77 })
		g.fails(t, api.Division, 0)
		g.set(t, func(s *api.State) { s.R[2] = 10 })
		g.spends(t, 1)
	}
}

// TestP17_3EveryInstruction lets each operation be done with drawn registers;
// the reading holds them against layers 8 and 9.
func TestP17_3EveryInstruction(t *testing.T) {
	for op := range 256 {
		for _, on := range []bool{false, true} {
			for a := range uint8(8) {
				b := a * 5 % 8
				g := paged(t)
				g.tally(t, on, 3)
				g.fill(t, 5*64, byte(op), a<<4|b, 4, 0, 0, 0, byte(op), a<<4, 1, 0, 0, 0)
				s := full(0x50|api.PInt, false)
				s.PC, s.CR[api.CRoot] = 0, 0
				for k := range s.R {
					s.R[k] = uint32(64*k + 4)
				}
				g.load(t, s)
				g.runs(t, 1)
				g.at(t, 6)
				g.runs(t, 2)
			}
		}
	}
}
