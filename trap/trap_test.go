package trap_test

import (
	"math"
	"math/rand"
	"testing"

	"mummer/api"
	"mummer/isa"
	"mummer/sense"
	"mummer/trap"
)

const greatest = math.MaxUint32

// The test's own reading of the chapter goes by the causes' and the control
// registers' plain numbers, by bits that are taken one at a time, and by sums
// of 64 bits that are cut.

func hasBit(n uint32, bit int) bool { return uint64(n)/(1<<bit)%2 == 1 }

// without is a number of which the bits that are named are 0.
func without(n uint32, bits ...int) uint32 {
	rest := uint64(n)
	for _, bit := range bits {
		if hasBit(n, bit) {
			rest -= 1 << bit
		}
	}
	return uint32(rest)
}

// statusOf has of a number what a status has: all but bit 3 and those from 8 on.
func statusOf(n uint32) uint32 {
	sum := uint32(0)
	for _, bit := range []int{0, 1, 2, 4, 5, 6, 7} {
		if hasBit(n, bit) {
			sum += 1 << bit
		}
	}
	return sum
}

// low is a cause modulo 2^32, never below 0.
func low(cause int) uint32 {
	rest := int64(cause) % (1 << 32)
	if rest < 0 {
		rest += 1 << 32
	}
	return uint32(rest)
}

func placeSaved(pc uint32, cause int) uint32 {
	if cause == 8 {
		return uint32((uint64(pc) + 2) % (1 << 32))
	}
	return pc
}

// entered is the chapter's Enter, with the fields one after the other.
func entered(s api.State, f api.Fault, back uint32) api.State {
	return api.State{
		R:      s.R,
		PC:     s.CR[1],
		PS:     without(s.PS, 0, 1),
		CR:     [8]uint32{s.CR[0], s.CR[1], back, s.PS, low(f.Cause), f.Addr, s.CR[6], s.CR[7]},
		Halted: s.Halted,
	}
}

func wanted(ps, waiting uint32) int {
	if !hasBit(ps, 1) {
		return 0
	}
	for bit := range 3 {
		if hasBit(waiting, bit) {
			return 9 + bit
		}
	}
	return 0
}

// enters holds a delivery against the second reading.
func enters(t *testing.T, s api.State, f api.Fault, back uint32) {
	t.Helper()
	want := entered(s, f, back)
	if n := trap.Enter(s, f, back); n != want {
		t.Fatalf("Enter(%+v, %+v, %d) =\n%+v, want\n%+v", s, f, back, n, want)
	}
}

// known are the causes by their names, in the order of their numbers.
func known() []int {
	return []int{api.Undecodable, api.Forbidden, api.Division, api.Misaligned, api.NoFetch, api.NoRead, api.NoWrite,
		api.Asked, api.Tick, api.Typed, api.Moved}
}

// strange are causes that are none; the last ones are beyond 32 bits where an
// int has more, and some of them are Asked modulo 2^32.
func strange() []int {
	all := []int{0, -1, -2, -7, -8, -9, -11, 12, 13, 255, 256, 264, 1<<31 - 1, -1 << 31, math.MaxInt, math.MinInt}
	for _, wide := range []int64{1 << 31, 1<<32 - 1, 1 << 32, 1<<32 + 1, 1<<32 + 8, 1<<32 + 9, 1 << 40, 1<<40 + 8, 1<<62 + 6,
		-1<<31 - 1, 1 - 1<<32, -1 << 32, -1<<32 - 1, 8 - 1<<32, -1 << 40, 8 - 1<<40} {
		if wide == int64(int(wide)) {
			all = append(all, int(wide))
		}
	}
	return all
}

func causes() []int { return append(known(), strange()...) }

// numbers are edges that registers, places, addresses and statuses may have.
func numbers() []uint32 {
	return []uint32{0, 1, 2, 3, 4, 7, 8, 10, 15, 16, 23, 32, 64, 128, 240, 246, 247, 248, 254, 255, 256, 0xfff,
		1<<31 - 1, 1 << 31, 1<<31 + 1, greatest - 8, greatest - 2, greatest - 1, greatest}
}

func draw(r *rand.Rand) uint32 {
	if all := numbers(); r.Intn(2) == 0 {
		return all[r.Intn(len(all))]
	}
	return r.Uint32()
}

func drawCause(r *rand.Rand) int {
	if all := causes(); r.Intn(4) != 0 {
		return all[r.Intn(len(all))]
	}
	return int(r.Uint64())
}

func drawState(r *rand.Rand) api.State {
	s := api.State{PC: draw(r), PS: draw(r), Halted: r.Intn(2) == 0}
	for k := range s.R {
		s.R[k], s.CR[k] = draw(r), draw(r)
	}
	return s
}

// full is a state of which all numbers are the same one.
func full(n uint32, halted bool) api.State {
	s := api.State{PC: n, PS: n, Halted: halted}
	for k := range s.R {
		s.R[k], s.CR[k] = n, n
	}
	return s
}

// apart is a state of which no two numbers are the same, so that a number that
// went to the wrong place is seen.
func apart(ps uint32) api.State {
	s := api.State{PC: 1000, PS: ps}
	for k := range s.R {
		s.R[k], s.CR[k] = 0x10101010*uint32(k+1)+5, 0x01234560*uint32(k+1)+9
	}
	return s
}

// states are those of 0, of the greatest and of some numbers between, and
// drawn ones.
func states() []api.State {
	all := []api.State{apart(0), apart(0xaf7), apart(greatest)}
	for _, n := range numbers() {
		all = append(all, full(n, false), full(n, true))
	}
	r := rand.New(rand.NewSource(10))
	for range 200 {
		all = append(all, drawState(r))
	}
	return all
}

func TestExamples(t *testing.T) {
	s := api.State{PC: 10}
	if n := trap.Back(s, api.Fault{Cause: api.Asked}); n != 12 {
		t.Errorf("back of Asked: %d", n)
	}
	if n := trap.Back(s, api.Fault{Cause: api.Division}); n != 10 {
		t.Errorf("back of Division: %d", n)
	}

	s.PS, s.CR[api.CVector] = api.PUser|api.PInt|api.PPage|api.FZ, 64
	want := api.State{PC: 64, PS: api.PPage | api.FZ}
	want.CR[api.CVector] = 64
	want.CR[api.CBack], want.CR[api.CStatus], want.CR[api.CCause], want.CR[api.CAddr] = 10, 23, 6, 7
	if n := trap.Enter(s, api.Fault{Cause: api.NoRead, Addr: 7}, 10); n != want {
		t.Errorf("entered: %+v, want %+v", n, want)
	}

	for _, c := range []struct {
		ps, waiting uint32
		want        int
	}{
		{api.PInt, 7, api.Tick},
		{api.PInt, 6, api.Typed},
		{api.PInt, 8, 0},
		{0, 7, 0},
	} {
		if n := trap.Wants(c.ps, c.waiting); n != c.want {
			t.Errorf("Wants(%d, %d) = %d, want %d", c.ps, c.waiting, n, c.want)
		}
	}
}

func TestP10_1EachCause(t *testing.T) {
	for _, s := range states() {
		for _, cause := range causes() {
			want := placeSaved(s.PC, cause)
			if n := trap.Back(s, api.Fault{Cause: cause, Addr: 77}); n != want {
				t.Fatalf("Back(PC %#x, %d) = %#x, want %#x", s.PC, cause, n, want)
			}
		}
	}
}

func TestP10_1Asked(t *testing.T) {
	for _, c := range [][2]uint32{{0, 2}, {1, 3}, {10, 12}, {1<<31 - 2, 1 << 31}, {1<<31 - 1, 1<<31 + 1},
		{greatest - 3, greatest - 1}, {greatest - 2, greatest}, {greatest - 1, 0}, {greatest, 1}} {
		if n := trap.Back(api.State{PC: c[0]}, api.Fault{Cause: api.Asked}); n != c[1] {
			t.Errorf("asked at %#x: back %#x, want %#x", c[0], n, c[1])
		}
	}
}

func TestP10_1OthersBackToPC(t *testing.T) {
	for _, pc := range numbers() {
		for _, cause := range causes() {
			if n := trap.Back(api.State{PC: pc}, api.Fault{Cause: cause}); cause != api.Asked && n != pc {
				t.Errorf("cause %d at %#x: back %#x", cause, pc, n)
			}
		}
	}
}

func TestP10_1Drawn(t *testing.T) {
	r := rand.New(rand.NewSource(101))
	for range 100000 {
		s, f := drawState(r), api.Fault{Cause: drawCause(r), Addr: draw(r)}
		if n, want := trap.Back(s, f), placeSaved(s.PC, f.Cause); n != want {
			t.Fatalf("Back(%+v, %+v) = %#x, want %#x", s, f, n, want)
		}
	}
}

// TestP10_1HangsOnPCAndCauseAlone: no other number of the state, nor the
// fault's address, turns the place.
func TestP10_1HangsOnPCAndCauseAlone(t *testing.T) {
	for _, s := range states() {
		for _, cause := range causes() {
			want := trap.Back(api.State{PC: s.PC}, api.Fault{Cause: cause})
			for _, addr := range []uint32{0, 8, s.PC, greatest} {
				if n := trap.Back(s, api.Fault{Cause: cause, Addr: addr}); n != want {
					t.Fatalf("Back(%+v, %d at %#x) = %#x, want %#x", s, cause, addr, n, want)
				}
			}
		}
	}
}

// TestP10_1BehindTheInstruction: the place of Asked is where the instruction
// trap, as bytes, ends.
func TestP10_1BehindTheInstruction(t *testing.T) {
	b, e := isa.Encode(api.Ins{Op: api.OTrap, Imm: 200}, false)
	if e != api.OK {
		t.Fatal(e)
	}
	if n := trap.Back(api.State{PC: 640}, api.Fault{Cause: api.Asked}); n != 640+uint32(len(b)) {
		t.Errorf("%d behind %d bytes at 640", n, len(b))
	}
}

func TestP10_2EachStateAndCause(t *testing.T) {
	for _, s := range states() {
		for _, cause := range causes() {
			for _, n := range []uint32{0, 7, 1 << 31, greatest} {
				enters(t, s, api.Fault{Cause: cause, Addr: n}, 0x5a5a)
				enters(t, s, api.Fault{Cause: cause, Addr: 0x5a5a}, n)
			}
		}
	}
}

func TestP10_2Drawn(t *testing.T) {
	r := rand.New(rand.NewSource(102))
	for range 100000 {
		enters(t, drawState(r), api.Fault{Cause: drawCause(r), Addr: draw(r)}, draw(r))
	}
}

// TestP10_2WhatIsSaved: the four numbers in their registers, typed out.
func TestP10_2WhatIsSaved(t *testing.T) {
	s := apart(0x87)
	n := trap.Enter(s, api.Fault{Cause: api.NoWrite, Addr: 0xabcd}, 0x4321)
	for _, c := range []struct {
		name      string
		got, want uint32
	}{
		{"back", n.CR[2], 0x4321},
		{"status", n.CR[3], 0x87},
		{"cause", n.CR[4], 7},
		{"address", n.CR[5], 0xabcd},
		{"PC", n.PC, s.CR[1]},
		{"PS", n.PS, 0x84},
	} {
		if c.got != c.want {
			t.Errorf("%s: %#x, want %#x", c.name, c.got, c.want)
		}
	}
}

func TestP10_2CauseModulo(t *testing.T) {
	for _, c := range []struct {
		cause int64
		want  uint32
	}{
		{0, 0},
		{11, 11},
		{-1, greatest},
		{-8, greatest - 7},
		{-1 << 31, 1 << 31},
		{1<<31 - 1, 1<<31 - 1},
		{1 << 31, 1 << 31},
		{1<<32 - 1, greatest},
		{1 << 32, 0},
		{1<<32 + 8, 8},
		{-1 << 32, 0},
		{3 - 1<<32, 3},
		{-1<<32 - 1, greatest},
		{1<<40 + 5, 5},
		{math.MaxInt64, greatest},
		{math.MinInt64, 0},
	} {
		if int64(int(c.cause)) != c.cause {
			continue
		}
		n := trap.Enter(apart(0), api.Fault{Cause: int(c.cause)}, 1)
		if n.CR[api.CCause] != c.want {
			t.Errorf("cause %d: %#x, want %#x", c.cause, n.CR[api.CCause], c.want)
		}
	}
}

func TestP10_2EachBitOfPS(t *testing.T) {
	for bit := range 32 {
		one, want := uint32(1)<<bit, uint32(1)<<bit
		if bit < 2 {
			want = 0
		}
		if n := trap.Enter(apart(one), api.Fault{Cause: api.Tick}, 1); n.PS != want || n.CR[api.CStatus] != one {
			t.Errorf("bit %d: PS %#x, saved %#x", bit, n.PS, n.CR[api.CStatus])
		}
		rest := ^one
		if n := trap.Enter(apart(rest), api.Fault{Cause: api.Tick}, 1); n.PS != rest&0xfffffffc || n.CR[api.CStatus] != rest {
			t.Errorf("all but bit %d: PS %#x, saved %#x", bit, n.PS, n.CR[api.CStatus])
		}
	}
}

func TestP10_2PCFromVector(t *testing.T) {
	for _, vector := range numbers() {
		for _, pc := range numbers() {
			s := apart(api.PUser)
			s.PC, s.CR[api.CVector] = pc, vector
			if n := trap.Enter(s, api.Fault{Cause: api.Division}, pc); n.PC != vector || n.CR[api.CVector] != vector {
				t.Errorf("vector %#x from %#x: PC %#x, CVector %#x", vector, pc, n.PC, n.CR[api.CVector])
			}
		}
	}
}

// TestP10_2BackIsAsHandedIn: the place is neither PC nor reckoned anew, of
// Asked too.
func TestP10_2BackIsAsHandedIn(t *testing.T) {
	for _, cause := range causes() {
		for _, back := range numbers() {
			if n := trap.Enter(apart(3), api.Fault{Cause: cause, Addr: 5}, back); n.CR[api.CBack] != back {
				t.Errorf("cause %d: back %#x, want %#x", cause, n.CR[api.CBack], back)
			}
		}
	}
}

func TestP10_2WhatIsNotSaidStays(t *testing.T) {
	for _, s := range states() {
		for _, cause := range causes() {
			n := trap.Enter(s, api.Fault{Cause: cause, Addr: 0x777}, 0x888)
			if n.R != s.R || n.Halted != s.Halted {
				t.Fatalf("cause %d turned registers or Halted: from %+v to %+v", cause, s, n)
			}
			for _, c := range []int{api.CRoot, api.CVector, api.CSpare1, api.CSpare2} {
				if n.CR[c] != s.CR[c] {
					t.Fatalf("cause %d turned control register %d: from %+v to %+v", cause, c, s, n)
				}
			}
		}
	}
}

// TestP10_2WhatStoodThere: it makes no difference whether what is saved stood
// there already, whole or in part.
func TestP10_2WhatStoodThere(t *testing.T) {
	s := apart(api.PUser | api.PInt)
	f := api.Fault{Cause: api.NoFetch, Addr: 0x99}
	want := trap.Enter(s, f, 0x55)
	whole := s
	whole.CR = want.CR
	if n := trap.Enter(whole, f, 0x55); n != want {
		t.Errorf("stood there whole: %+v, want %+v", n, want)
	}
	for _, c := range []int{api.CBack, api.CStatus, api.CCause, api.CAddr} {
		part := whole
		part.CR[c]++
		if n := trap.Enter(part, f, 0x55); n != want {
			t.Errorf("all but register %d stood there: %+v, want %+v", c, n, want)
		}
	}
}

// TestP10_2OverAnotherOne: a delivery behind a delivery saves the status that
// the first one left.
func TestP10_2OverAnotherOne(t *testing.T) {
	s := apart(0xf7)
	first := trap.Enter(s, api.Fault{Cause: api.Asked, Addr: 1}, 1002)
	n := trap.Enter(first, api.Fault{Cause: api.NoFetch, Addr: 2}, first.PC)
	want := s
	want.PC, want.PS = s.CR[1], 0xf4
	want.CR[2], want.CR[3], want.CR[4], want.CR[5] = s.CR[1], 0xf4, 5, 2
	if n != want {
		t.Errorf("%+v, want %+v", n, want)
	}
}

// statuses are those bits of PS that a status has, in each set, and numbers
// beyond them.
func statuses() []uint32 {
	all := append(numbers(), 0xfffffffd, 0xfffffff8, 0x80000002, 10)
	for ps := range uint32(256) {
		all = append(all, ps)
	}
	return all
}

func TestP10_3EachSet(t *testing.T) {
	sets := [8]int{0, api.Tick, api.Typed, api.Tick, api.Moved, api.Tick, api.Typed, api.Tick}
	for waiting, want := range sets {
		for _, ps := range statuses() {
			taking, not := ps|2, ps&0xfffffffd
			if n := trap.Wants(taking, uint32(waiting)); n != want {
				t.Errorf("Wants(%#x, %d) = %d, want %d", taking, waiting, n, want)
			}
			if n := trap.Wants(not, uint32(waiting)); n != 0 {
				t.Errorf("Wants(%#x, %d) = %d, want 0", not, waiting, n)
			}
		}
	}
}

func TestP10_3OtherBitsCountForNothing(t *testing.T) {
	for bit := 3; bit < 32; bit++ {
		for set := range uint32(8) {
			waiting := set + 1<<bit
			if n, want := trap.Wants(api.PInt, waiting), trap.Wants(api.PInt, set); n != want {
				t.Errorf("Wants(PInt, %#x) = %d, want %d", waiting, n, want)
			}
			if n := trap.Wants(0xfffffffd, waiting); n != 0 {
				t.Errorf("without PInt, %#x waiting: %d", waiting, n)
			}
		}
		if n := trap.Wants(api.PInt, 1<<bit); n != 0 {
			t.Errorf("bit %d alone: %d", bit, n)
		}
	}
	for _, c := range []struct {
		waiting uint32
		want    int
	}{{greatest - 7, 0}, {greatest, api.Tick}, {greatest - 1, api.Typed}, {greatest - 3, api.Moved}} {
		if n := trap.Wants(greatest, c.waiting); n != c.want {
			t.Errorf("%#x waiting: %d, want %d", c.waiting, n, c.want)
		}
	}
}

func TestP10_3Drawn(t *testing.T) {
	r := rand.New(rand.NewSource(103))
	for range 100000 {
		ps, waiting := draw(r), draw(r)
		if n, want := trap.Wants(ps, waiting), wanted(ps, waiting); n != want {
			t.Fatalf("Wants(%#x, %#x) = %d, want %d", ps, waiting, n, want)
		}
	}
}

// leadsBack delivers a fault and goes back from it.
func leadsBack(t *testing.T, s api.State, f api.Fault, back uint32) {
	t.Helper()
	in := trap.Enter(s, f, back)
	want := in
	want.PC, want.PS = back, statusOf(s.PS)
	n, e := sense.Do(in, api.Ins{Op: api.OIret}, 0)
	if n != want || e != (api.Effect{}) {
		t.Fatalf("from %+v by %+v, back %#x:\n%+v, %+v, want\n%+v", s, f, back, n, e, want)
	}
}

func TestP10_4IretLeadsBack(t *testing.T) {
	for _, s := range states() {
		for _, cause := range causes() {
			for _, back := range []uint32{0, 10, s.PC, greatest} {
				leadsBack(t, s, api.Fault{Cause: cause, Addr: 3}, back)
			}
		}
	}
	r := rand.New(rand.NewSource(104))
	for range 100000 {
		leadsBack(t, drawState(r), api.Fault{Cause: drawCause(r), Addr: draw(r)}, draw(r))
	}
}

// TestP10_4EachStatus: of a status that has no bit beyond PMask nothing is lost
// on the way in and back.
func TestP10_4EachStatus(t *testing.T) {
	for ps := range uint32(256) {
		s := apart(ps &^ 8)
		f := api.Fault{Cause: api.Typed}
		n, _ := sense.Do(trap.Enter(s, f, trap.Back(s, f)), api.Ins{Op: api.OIret}, 0)
		if n.PS != s.PS || n.PC != s.PC || n.R != s.R || n.Halted != s.Halted {
			t.Errorf("from %+v to %+v", s, n)
		}
	}
}

func TestP10_4NoInterruptAndTheSystemsRing(t *testing.T) {
	for _, s := range states() {
		for _, cause := range causes() {
			n := trap.Enter(s, api.Fault{Cause: cause}, s.PC)
			if hasBit(n.PS, 0) {
				t.Fatalf("cause %d from %+v: the user ring", cause, s)
			}
			for waiting := range uint32(16) {
				for _, more := range []uint32{0, 0x80000000, greatest - 15} {
					if got := trap.Wants(n.PS, waiting+more); got != 0 {
						t.Fatalf("cause %d from %+v: interrupt %d is taken", cause, s, got)
					}
				}
			}
		}
	}
}

// TestP10_4TheRingAsSenseSeesIt: behind Enter an instruction that the user ring
// must not ask for is done.
func TestP10_4TheRingAsSenseSeesIt(t *testing.T) {
	for _, s := range states() {
		s.PS |= api.PUser
		if _, e := sense.Do(s, api.Ins{Op: api.OHlt}, 0); e.Cause != api.Forbidden {
			t.Fatalf("ahead of it: %+v", e)
		}
		n := trap.Enter(s, api.Fault{Cause: api.Forbidden}, s.PC)
		if halted, e := sense.Do(n, api.Ins{Op: api.OHlt}, 0); !halted.Halted || e.Cause != 0 {
			t.Fatalf("behind it: %+v, %+v", halted, e)
		}
	}
}
