package host_test

import (
	"testing"

	"mummer/api"
)

// reads lets a byte be read at an address; the code for it lies at 0.
func (g *rig) reads(t *testing.T, at uint32) byte {
	t.Helper()
	g.set(t, func(s *api.State) { s.PC, s.R[1], s.R[2] = 0, 0, at })
	g.spends(t, 1)
	return byte(g.h.State().R[1])
}

// reading is slotted, with code that reads, and bytes that tell their frame.
func reading(t *testing.T, slots int) *rig {
	t.Helper()
	g := slotted(t, slots)
	g.program(t, 5*64, api.Ins{Op: api.OLdb, A: 1, B: 2})
	for frame := uint32(6); frame < 10; frame++ {
		g.fill(t, 64*frame+40, byte(frame))
	}
	return g
}

func TestP17_1WhatIsKnownCounts(t *testing.T) {
	g := reading(t, 16)
	if b := g.reads(t, 104); b != 6 {
		t.Fatalf("%d was read", b)
	}
	// Another frame, or none: the way that is known stays, for all of the page.
	g.page(t, 64, 7, all)
	if b := g.reads(t, 104); b != 6 {
		t.Errorf("%d was read by the way that is known", b)
	}
	g.word(t, 4*0, 0)
	if b := g.reads(t, 104); b != 6 {
		t.Errorf("%d was read by the way that is known", b)
	}
	g.word(t, 4*0, 2*64|all)
	g.flush(t)
	if b := g.reads(t, 104); b != 7 {
		t.Errorf("behind a flush %d was read", b)
	}
}

// TestP17_1WhatIsKnownHasItsBits: also a way that did not let the access is
// known from then on, with the bits that it had.
func TestP17_1WhatIsKnownHasItsBits(t *testing.T) {
	for _, few := range []uint32{api.EThere, api.EThere | api.EWrite, all | api.ECode} {
		g := reading(t, 16)
		g.page(t, 64, 6, few)
		g.set(t, func(s *api.State) { s.R[2] = 104 })
		g.fails(t, api.NoRead, 104)
		g.page(t, 64, 6, all)
		g.fails(t, api.NoRead, 104)
		g.flush(t)
		g.reads(t, 104)
		// And the other way round: what it let it lets.
		g.page(t, 64, 6, few)
		g.reads(t, 104)
		g.flush(t)
		g.set(t, func(s *api.State) { s.PC, s.R[2] = 0, 104 })
		g.fails(t, api.NoRead, 104)
	}
}

// TestP17_1OneWayForAllKinds: what was fetched by is read and written by.
func TestP17_1OneWayForAllKinds(t *testing.T) {
	g := paged(t)
	g.page(t, 64, 6, api.EThere|api.EUser)
	g.program(t, 6*64, api.Ins{Op: api.OLdb, A: 1, B: 2}, api.Ins{Op: api.OStb, A: 1, B: 2})
	g.set(t, func(s *api.State) { s.PC, s.R[2] = 64, 100 })
	g.fill(t, 6*64+36, 66)
	g.fill(t, 7*64+36, 77)
	g.spends(t, 1)
	g.page(t, 64, 7, all)
	g.fails(t, api.NoWrite, 100)
	g.at(t, 64)
	g.spends(t, 1)
	if n := g.h.State().R[1]; n != 66 {
		t.Errorf("%d was read", n)
	}
}

func TestP17_1WhatLedNowhereIsNotKnown(t *testing.T) {
	g := reading(t, 16)
	for _, gone := range []uint32{0, 6 * 64, 6*64 | api.EWrite | api.EUser, 10*64 | all} {
		g.word(t, 2*64+4, gone)
		g.set(t, func(s *api.State) { s.PC, s.R[2] = 0, 104 })
		g.fails(t, api.NoRead, 104)
	}
	g.page(t, 64, 6, all)
	if b := g.reads(t, 104); b != 6 {
		t.Errorf("%d was read", b)
	}
}

// TestP17_1Slots: two pages are known at one time, unless they have one slot.
func TestP17_1Slots(t *testing.T) {
	for slots := 1; slots <= 64; slots++ {
		for _, other := range []uint32{64, 128, 192, 256, 1024 + 64, 1024 + 448, 31744, 32704} {
			g := reading(t, slots)
			if other > 256 {
				g.page(t, other, 9, all)
			}
			g.set(t, func(s *api.State) { s.R[2] = other })
			g.spends(t, 1)
			// The page of the code is known still, if the other one has another slot.
			g.word(t, 2*64, 0)
			g.at(t, 0)
			if other/64%uint32(slots) == 0 {
				g.fails(t, api.NoFetch, 0)
			} else {
				g.spends(t, 1)
			}
		}
	}
}

// TestP17_1ASlotIsGivenUpAmidAnInstruction: with one slot the second page takes
// that of the first one, whose bytes are fetched already.
func TestP17_1ASlotIsGivenUpAmidAnInstruction(t *testing.T) {
	g := slotted(t, 1)
	g.program(t, 7*64-3, api.Ins{Op: api.OLdi, A: 1, Imm: 0x01020304})
	g.at(t, 125)
	g.spends(t, 1)
	if n := g.h.State().R[1]; n != 0x01020304 {
		t.Errorf("%#x was loaded", n)
	}
	g.at(t, 125)
	g.word(t, 2*64+4, 0)
	g.fails(t, api.NoFetch, 125)
}

func TestP17_1Roots(t *testing.T) {
	// The root's lowest six bits count for nothing.
	for low := range uint32(64) {
		g := reading(t, 8)
		g.set(t, func(s *api.State) { s.CR[api.CRoot] = low })
		if b := g.reads(t, 104); b != 6 {
			t.Errorf("by the root %d %d was read", low, b)
		}
	}
	// A directory elsewhere, one that is not in the memory, and one that is in part.
	for _, root := range []uint32{8 * 64, 10 * 64, 1 << 31, 0xffffffc0} {
		g := reading(t, 8)
		g.word(t, 8*64, 3*64|all)
		g.page(t, 1024, 5, all)
		g.page(t, 1024+64, 9, all)
		g.set(t, func(s *api.State) { s.CR[api.CRoot], s.R[2] = root, 104 })
		if root == 8*64 {
			g.spends(t, 1)
			if n := g.h.State().R[1]; n != 9 {
				t.Errorf("%d was read", n)
			}
			continue
		}
		g.fails(t, api.NoFetch, 0)
	}
}

func TestP17_1DirectoryOf32(t *testing.T) {
	for k := range uint32(34) {
		g := reading(t, 64)
		if k < 32 {
			g.word(t, 4*k, 2*64|all)
		}
		g.set(t, func(s *api.State) { s.R[2] = 1024*k + 104 })
		if k < 32 {
			g.spends(t, 1)
			g.touches(t, 6)
		} else {
			g.fails(t, api.NoRead, 1024*k+104)
		}
	}
}

// writing is paged, with code that writes the bytes of register 1.
func writing(t *testing.T) *rig {
	t.Helper()
	g := paged(t)
	g.program(t, 5*64, api.Ins{Op: api.OSt, A: 1, B: 2})
	return g
}

func (g *rig) writes(t *testing.T, at, value uint32) {
	t.Helper()
	g.set(t, func(s *api.State) { s.PC, s.R[1], s.R[2] = 0, value, at })
	g.spends(t, 1)
}

func (g *rig) hasWord(t *testing.T, at, want uint32) {
	t.Helper()
	if w, is := g.r.Word(at); !is || w != want {
		t.Errorf("at %d there is %#x, %t, want %#x", at, w, is, want)
	}
}

func TestP17_1SoilsEachTime(t *testing.T) {
	g := writing(t)
	for range 3 {
		g.writes(t, 64, 1)
		g.hasWord(t, 2*64+4, 6*64|all|api.EDirty)
		g.page(t, 64, 6, all) // others clean it: it is soiled again, though the way is known
	}
	g.hasWord(t, 0, 2*64|all)
	g.hasWord(t, 2*64, 5*64|all)
}

func TestP17_1SoilsWhatLeadsThereNow(t *testing.T) {
	// The way that is known leads to frame 6; the entry leads to another one, or lets no writing.
	for _, now := range []uint32{7*64 | all, 7 * 64, 6*64 | api.EThere, 7*64 | api.EThere | api.EUser | api.ECode, 10*64 | all, 0} {
		g := writing(t)
		g.writes(t, 64, 1)
		g.word(t, 2*64+4, now)
		g.writes(t, 68, 2)
		g.hasWord(t, 6*64+4, 2)
		g.hasWord(t, 7*64+4, 0)
		g.touches(t, 6)
		if now&api.EThere != 0 && now < 640 {
			now |= api.EDirty
		}
		g.hasWord(t, 2*64+4, now)
	}
}

func TestP17_1SoilsByTheDirectoryNow(t *testing.T) {
	g := writing(t)
	g.writes(t, 64, 1)
	g.word(t, 2*64+4, 6*64|all)
	// Another table, by the same directory.
	g.word(t, 0, 3*64|all)
	g.page(t, 1024+64, 8, all)
	g.writes(t, 68, 2)
	g.hasWord(t, 6*64+4, 2)
	g.hasWord(t, 2*64+4, 6*64|all)
	g.hasWord(t, 3*64+4, 8*64|all|api.EDirty)
	// Another directory.
	g.word(t, 9*64, 4*64|all)
	g.page(t, 31744+64, 8, all)
	g.set(t, func(s *api.State) { s.CR[api.CRoot] = 9 * 64 })
	g.page(t, 1024+64, 8, all)
	g.writes(t, 72, 3)
	g.hasWord(t, 6*64+8, 3)
	g.hasWord(t, 3*64+4, 8*64|all)
	g.hasWord(t, 4*64+4, 8*64|all|api.EDirty)
	// None at all.
	g.set(t, func(s *api.State) { s.CR[api.CRoot] = 1 << 20 })
	g.page(t, 31744+64, 8, all)
	was := flat(g.r)
	g.writes(t, 76, 4)
	g.hasWord(t, 6*64+12, 4)
	was[6*64+12] = 4
	if now := flat(g.r); string(now) != string(was) {
		t.Error("more turned than what was written")
	}
}

// TestP17_1SoilsAheadOfWriting: what is written over the entry itself stays as
// it was written, and what is exchanged with it was not soiled yet.
func TestP17_1SoilsAheadOfWriting(t *testing.T) {
	// The page at 320 is the table itself: its entry stands at 340.
	for _, value := range []uint32{0, 2*64 | all, 6*64 | all, 0xffffffff &^ api.EDirty} {
		g := writing(t)
		g.writes(t, 340, value)
		g.hasWord(t, 2*64+20, value)
		g = writing(t)
		g.program(t, 5*64, api.Ins{Op: api.OXchg, A: 1, B: 2})
		g.writes(t, 340, value)
		g.hasWord(t, 2*64+20, value)
		if n := g.h.State().R[1]; n != 2*64|all {
			t.Errorf("%#x was there", n)
		}
	}
	// A part of it: the rest is soiled.
	g := writing(t)
	g.program(t, 5*64, api.Ins{Op: api.OStb, A: 1, B: 2})
	g.writes(t, 341, 9)
	g.hasWord(t, 2*64+20, 0x0900|0x80|all|api.EDirty)
	g.flush(t)
	g.word(t, 2*64+20, 2*64|all)
	g.writes(t, 340, 0x81)
	g.hasWord(t, 2*64+20, 0x81)
}

// TestP17_1WritingAnEntryThatIsWalked: another entry of the table is written;
// what is known goes on, what is not goes by the new one.
func TestP17_1WritingAnEntryThatIsWalked(t *testing.T) {
	g := writing(t)
	g.writes(t, 64, 1)
	g.writes(t, 320+4, 7*64|all)   // 64 leads to frame 7
	g.writes(t, 320+3*4, 9*64|all) // 192, which is not known, to frame 9
	g.writes(t, 68, 2)
	g.hasWord(t, 6*64+4, 2)
	g.hasWord(t, 2*64+4, 7*64|all|api.EDirty)
	g.writes(t, 192, 3)
	g.hasWord(t, 9*64, 3)
	g.flush(t)
	g.writes(t, 72, 4)
	g.hasWord(t, 7*64+8, 4)
	g.touches(t, 2, 6, 7, 9)
}

// TestP17_1CodeOverItself: what is written over code is fetched at once.
func TestP17_1CodeOverItself(t *testing.T) {
	g := paged(t)
	g.program(t, 5*64, api.Ins{Op: api.OStb, A: 1, B: 2}, api.Ins{Op: api.ONop}, api.Ins{Op: api.ONop})
	g.set(t, func(s *api.State) { s.R[1], s.R[2] = uint32(api.OHlt), 4 })
	g.ends(t, 9, api.Exit{Kind: api.XFault, Cause: api.Forbidden, N: 2})
	g.touches(t, 5)
}
