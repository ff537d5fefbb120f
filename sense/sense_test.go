package sense_test

import (
	"math"
	"math/rand"
	"testing"

	"mummer/api"
	"mummer/isa"
	"mummer/kind"
	"mummer/sense"
)

const greatest = math.MaxUint32

// The test's own reading of the chapter goes by the operations' plain numbers,
// by bits that are taken one at a time, and by sums of 64 bits that are cut.

// row is what the chapter's table has of an operation: how many bytes its
// instructions have, the highest A and B, and whether the user ring may not
// ask for it.
type row struct {
	bytes     uint64
	a, b      uint8
	forbidden bool
}

// rows are the nine operations.
var rows = map[uint8]row{
	0x01: {bytes: 1, forbidden: true},
	0x02: {bytes: 1},
	0x03: {bytes: 1},
	0x60: {bytes: 2, a: 7},
	0x61: {bytes: 2, a: 7},
	0x62: {bytes: 2, a: 7, b: 7},
	0x63: {bytes: 2, a: 7, b: 7, forbidden: true},
	0x64: {bytes: 2, a: 7, b: 7, forbidden: true},
	0x65: {bytes: 2, a: 7, b: 7, forbidden: true},
}

// nine are the operations in their order.
func nine() []uint8 { return []uint8{0x01, 0x02, 0x03, 0x60, 0x61, 0x62, 0x63, 0x64, 0x65} }

func ofLayer(i api.Ins) bool {
	r, is := rows[i.Op]
	return is && i.A <= r.a && i.B <= r.b && i.Imm == 0
}

// bitsOf is a number that has the bits that are named of one number, and all
// others of another one.
func bitsOf(from, others uint32, bits ...int) uint32 {
	sum := uint64(0)
	for k := range 32 {
		source := others
		for _, bit := range bits {
			if bit == k {
				source = from
			}
		}
		if uint64(source)/(1<<k)%2 == 1 {
			sum += 1 << k
		}
	}
	return uint32(sum)
}

// statusOf has of a number the ring, interrupts, paging and the four flags.
func statusOf(n uint32) uint32 { return bitsOf(n, 0, 0, 1, 2, 4, 5, 6, 7) }

// flagged is a status with the flags of another number.
func flagged(ps, n uint32) uint32 { return bitsOf(n, ps, 4, 5, 6, 7) }

// after is the chapter's table, read by its columns.
func after(s api.State, i api.Ins, in uint32) (api.State, api.Effect) {
	if !ofLayer(i) {
		return s, api.Effect{Cause: 1}
	}
	if s.PS%2 == 1 && rows[i.Op].forbidden {
		return s, api.Effect{Cause: 2}
	}
	next := s
	next.PC = uint32((uint64(s.PC) + rows[i.Op].bytes) % (1 << 32))
	if s.PS%2 == 1 {
		return inUserRing(next, i), api.Effect{}
	}
	return inSystemsRing(next, i, in)
}

func inUserRing(s api.State, i api.Ins) api.State {
	switch i.Op {
	case 0x60:
		s.R[i.A] = s.PS
	case 0x61:
		s.PS = flagged(s.PS, s.R[i.A])
	case 0x62:
		s.R[i.A] = 0
	}
	return s
}

func inSystemsRing(s api.State, i api.Ins, in uint32) (api.State, api.Effect) {
	switch i.Op {
	case 0x01:
		s.Halted = true
	case 0x02:
		s.PC, s.PS = s.CR[2], statusOf(s.CR[3])
	case 0x03:
		return s, api.Effect{Flush: true}
	case 0x60:
		s.R[i.A] = s.PS
	case 0x61:
		s.PS = statusOf(s.R[i.A])
	case 0x62:
		s.R[i.A] = s.CR[i.B]
	case 0x63:
		s.CR[i.B] = s.R[i.A]
		return s, api.Effect{Flush: i.B == 0}
	case 0x64:
		s.R[i.A] = in
	case 0x65:
		return s, api.Effect{Out: true, Port: int(i.B), Value: s.R[i.A]}
	}
	return s, api.Effect{}
}

// check holds an instruction against the second reading.
func check(t *testing.T, s api.State, i api.Ins, in uint32) {
	t.Helper()
	want, asks := after(s, i, in)
	if n, e := sense.Do(s, i, in); n != want || e != asks {
		t.Fatalf("Do(%+v, %+v, %d) =\n%+v, %+v, want\n%+v, %+v", s, i, in, n, e, want, asks)
	}
}

// does holds an instruction against what is typed out.
func does(t *testing.T, s api.State, i api.Ins, in uint32, want api.State, asks api.Effect) {
	t.Helper()
	if n, e := sense.Do(s, i, in); n != want || e != asks {
		t.Errorf("Do(%+v, %+v, %d) =\n%+v, %+v, want\n%+v, %+v", s, i, in, n, e, want, asks)
	}
}

func refuses(t *testing.T, s api.State, i api.Ins, cause int) {
	t.Helper()
	does(t, s, i, 7, s, api.Effect{Cause: cause})
}

// numbers are edges that registers, places and statuses may have.
func numbers() []uint32 {
	return []uint32{0, 1, 2, 3, 4, 7, 8, 9, 15, 16, 32, 64, 128, 240, 246, 247, 248, 254, 255, 256, 0xfff,
		1<<31 - 1, 1 << 31, 1<<31 + 1, greatest - 8, greatest - 2, greatest - 1, greatest}
}

func draw(r *rand.Rand) uint32 {
	if all := numbers(); r.Intn(2) == 0 {
		return all[r.Intn(len(all))]
	}
	return r.Uint32()
}

func drawState(r *rand.Rand) api.State {
	s := api.State{PC: draw(r), PS: draw(r), Halted: r.Intn(2) == 0}
	for k := range s.R {
		s.R[k], s.CR[k] = draw(r), draw(r)
	}
	return s
}

// full is a state of which all numbers are the same one.
func full(n uint32, halted bool) api.State {
	s := api.State{PC: n, PS: n, Halted: halted}
	for k := range s.R {
		s.R[k], s.CR[k] = n, n
	}
	return s
}

// apart is a state of which no two numbers are the same, so that a number that
// went to the wrong place is seen.
func apart(ps uint32) api.State {
	s := api.State{PC: 1000, PS: ps}
	for k := range s.R {
		s.R[k], s.CR[k] = 0x10101010*uint32(k+1)+5, 0x01234560*uint32(k+1)+9
	}
	return s
}

// both are a state in the system's ring and the same one in the user ring.
func both(s api.State) [2]api.State {
	system, user := s, s
	system.PS, user.PS = s.PS&^api.PUser, s.PS|api.PUser
	return [2]api.State{system, user}
}

// states are those of 0, of the greatest and of some numbers between, and
// drawn ones, each in both rings.
func states() []api.State {
	all := []api.State{}
	add := func(s api.State) {
		for _, ring := range both(s) {
			all = append(all, ring)
		}
	}
	for _, n := range numbers() {
		add(full(n, false))
		add(full(n, true))
	}
	r := rand.New(rand.NewSource(9))
	for range 200 {
		add(drawState(r))
	}
	add(apart(0xaf6))
	return all
}

// everyOne goes over each of the nine with each A and B that it may have.
func everyOne(yield func(api.Ins)) {
	for _, op := range nine() {
		for a := range rows[op].a + 1 {
			for b := range rows[op].b + 1 {
				yield(api.Ins{Op: op, A: a, B: b})
			}
		}
	}
}

func TestExamples(t *testing.T) {
	s := api.State{PS: api.PUser | api.PInt}
	want := s
	want.R[3], want.PC = 3, 2
	does(t, s, api.Ins{Op: api.ORdps, A: 3}, 0, want, api.Effect{})

	s.R[1] = 0xff
	want = s
	want.PS, want.PC = api.PUser|api.PInt|api.FZ|api.FN|api.FC|api.FV, 2
	does(t, s, api.Ins{Op: api.OWrps, A: 1}, 0, want, api.Effect{})

	s = api.State{}
	s.R[1] = 0xfff
	want = s
	want.PS, want.PC = 0xf7, 2
	does(t, s, api.Ins{Op: api.OWrps, A: 1}, 0, want, api.Effect{})

	s = api.State{PS: api.PUser, PC: 5}
	s.CR[api.CBack] = 8
	want = s
	want.PC = 6
	does(t, s, api.Ins{Op: api.OIret}, 0, want, api.Effect{})

	s.PS, s.CR[api.CStatus] = 0, 9
	want = s
	want.PC, want.PS = 8, 1
	does(t, s, api.Ins{Op: api.OIret}, 0, want, api.Effect{})

	s = api.State{}
	s.R[2] = 64
	want = s
	want.CR[0], want.PC = 64, 2
	does(t, s, api.Ins{Op: api.OWrcr, A: 2}, 0, want, api.Effect{Flush: true})

	s.PS = api.PUser
	refuses(t, s, api.Ins{Op: api.OOut, A: 2}, api.Forbidden)
}

func TestP9_1EachOfTheNine(t *testing.T) {
	for _, s := range states() {
		everyOne(func(i api.Ins) {
			for _, in := range []uint32{0, 1, 0x5a5a5a5a, greatest} {
				check(t, s, i, in)
			}
		})
	}
}

func TestP9_1Drawn(t *testing.T) {
	r := rand.New(rand.NewSource(90))
	for range 100000 {
		i := api.Ins{Op: nine()[r.Intn(9)], A: uint8(r.Intn(8)), B: uint8(r.Intn(8))}
		if r.Intn(4) != 0 {
			i.A, i.B = min(i.A, rows[i.Op].a), min(i.B, rows[i.Op].b)
		}
		switch r.Intn(16) {
		case 0:
			i.Op = uint8(r.Intn(256))
		case 1:
			i.A, i.B = uint8(r.Intn(256)), uint8(r.Intn(256))
		case 2:
			i.Imm = int32(r.Uint32())
		}
		check(t, drawState(r), i, draw(r))
	}
}

func TestP9_1Hlt(t *testing.T) {
	halt := api.Ins{Op: api.OHlt}
	for _, s := range states() {
		if s.PS&api.PUser != 0 {
			refuses(t, s, halt, api.Forbidden)
			continue
		}
		want := s
		want.Halted, want.PC = true, s.PC+1
		does(t, s, halt, 7, want, api.Effect{})
	}
}

func TestP9_1IretSystem(t *testing.T) {
	iret := api.Ins{Op: api.OIret}
	for _, back := range numbers() {
		for _, status := range numbers() {
			s := apart(0x106)
			s.CR[api.CBack], s.CR[api.CStatus] = back, status
			want := s
			want.PC, want.PS = back, status&0xf7
			does(t, s, iret, 7, want, api.Effect{})
		}
	}
}

func TestP9_1IretEachBit(t *testing.T) {
	for bit := range 32 {
		s := apart(0)
		s.CR[api.CStatus] = 1 << bit
		want := uint32(1) << bit
		if bit == 3 || bit > 7 {
			want = 0
		}
		if n, _ := sense.Do(s, api.Ins{Op: api.OIret}, 0); n.PS != want {
			t.Errorf("back from bit %d: PS %#x, want %#x", bit, n.PS, want)
		}
	}
}

func TestP9_1IretUser(t *testing.T) {
	for _, back := range numbers() {
		for _, status := range numbers() {
			s := apart(api.PUser | api.FC | 0x800)
			s.CR[api.CBack], s.CR[api.CStatus] = back, status
			want := s
			want.PC = 1001
			does(t, s, api.Ins{Op: api.OIret}, 7, want, api.Effect{})
		}
	}
}

func TestP9_1Flush(t *testing.T) {
	for _, s := range states() {
		want := s
		want.PC++
		does(t, s, api.Ins{Op: api.OFlush}, 7, want, api.Effect{Flush: s.PS&api.PUser == 0})
	}
}

func TestP9_1RdpsTellsAllOfPS(t *testing.T) {
	for _, s := range states() {
		for a := range uint8(8) {
			want := s
			want.R[a], want.PC = s.PS, s.PC+2
			does(t, s, api.Ins{Op: api.ORdps, A: a}, 7, want, api.Effect{})
		}
	}
	if n, _ := sense.Do(api.State{PS: 0xffffff08}, api.Ins{Op: api.ORdps}, 0); n.R[0] != 0xffffff08 {
		t.Errorf("bits beyond PMask: %#x", n.R[0])
	}
	if n, _ := sense.Do(api.State{PS: 0xffffff09}, api.Ins{Op: api.ORdps}, 0); n.R[0] != 0xffffff09 {
		t.Errorf("bits beyond PMask, in the user ring: %#x", n.R[0])
	}
}

func TestP9_1WrpsSystem(t *testing.T) {
	for _, c := range []struct{ ps, value, want uint32 }{
		{0, 0, 0},
		{0, greatest, 0xf7},
		{0, 0xffffff08, 0},
		{0xffffff08, 0, 0},
		{0xfffffffe, 0, 0},
		{0xfffffffe, greatest, 0xf7},
		{api.PInt | api.PPage, api.PUser, api.PUser},
		{api.PInt | api.PPage, api.PUser | api.PInt | api.PPage, 7},
		{api.PInt | api.PPage | api.FMask, api.FV, api.FV},
		{api.FMask, api.PInt, api.PInt},
		{0, 0x109, 1},
	} {
		for a := range uint8(8) {
			s := apart(c.ps)
			s.R[a] = c.value
			want := s
			want.PS, want.PC = c.want, 1002
			does(t, s, api.Ins{Op: api.OWrps, A: a}, 7, want, api.Effect{})
		}
	}
}

func TestP9_1WrpsUser(t *testing.T) {
	for _, c := range []struct{ ps, value, want uint32 }{
		{1, 0, 1},
		{1, greatest, 0xf1},
		{1, 6, 1},
		{3, 0xff, 0xf3},
		{7, 0xf0, 0xf7},
		{0xf7, 0, 7},
		{0xf5, 0x40, 0x45},
		{0xffffffff, 0, 0xffffff0f},
		{0xffffff09, 0xf0, 0xfffffff9},
	} {
		for a := range uint8(8) {
			s := apart(c.ps)
			s.R[a] = c.value
			want := s
			want.PS, want.PC = c.want, 1002
			does(t, s, api.Ins{Op: api.OWrps, A: a}, 7, want, api.Effect{})
		}
	}
}

func TestP9_1WrpsEachBit(t *testing.T) {
	for bit := range 32 {
		value := uint32(1) << bit
		for k, s := range both(api.State{PS: 0x6}) {
			s.R[5] = value
			want := bitsOf(value, 0, 0, 1, 2, 4, 5, 6, 7)
			if k == 1 {
				want = 7 + bitsOf(value, 0, 4, 5, 6, 7)
			}
			if n, _ := sense.Do(s, api.Ins{Op: api.OWrps, A: 5}, 0); n.PS != want {
				t.Errorf("ring %d, bit %d: PS %#x, want %#x", k, bit, n.PS, want)
			}
		}
	}
}

func TestP9_1RdcrEachRegister(t *testing.T) {
	for ab := range uint8(64) {
		a, b := ab/8, ab%8
		i := api.Ins{Op: api.ORdcr, A: a, B: b}
		s := apart(api.PPage | api.FZ)
		want := s
		want.R[a], want.PC = 0x01234560*uint32(b+1)+9, 1002
		does(t, s, i, 7, want, api.Effect{})
		s.PS |= api.PUser
		want = s
		want.R[a], want.PC = 0, 1002
		does(t, s, i, 7, want, api.Effect{})
	}
}

func TestP9_1WrcrEachRegister(t *testing.T) {
	for ab := range uint8(64) {
		a, b := ab/8, ab%8
		i := api.Ins{Op: api.OWrcr, A: a, B: b}
		s := apart(api.PPage | api.FZ)
		want := s
		want.CR[b], want.PC = 0x10101010*uint32(a+1)+5, 1002
		does(t, s, i, 7, want, api.Effect{Flush: b == api.CRoot})
		s.PS |= api.PUser
		refuses(t, s, i, api.Forbidden)
	}
}

func TestP9_1WrcrOfWhatIsThereAlready(t *testing.T) {
	s := full(64, false)
	want := s
	want.PC = 66
	does(t, s, api.Ins{Op: api.OWrcr, A: 3}, 7, want, api.Effect{Flush: true})
	does(t, s, api.Ins{Op: api.OWrcr, A: 3, B: api.CVector}, 7, want, api.Effect{})
}

func TestP9_1In(t *testing.T) {
	for ab := range uint8(64) {
		i := api.Ins{Op: api.OIn, A: ab / 8, B: ab % 8}
		for _, in := range numbers() {
			s := apart(api.PInt)
			want := s
			want.R[i.A], want.PC = in, 1002
			does(t, s, i, in, want, api.Effect{})
			s.PS |= api.PUser
			does(t, s, i, in, s, api.Effect{Cause: api.Forbidden})
		}
	}
}

func TestP9_1Out(t *testing.T) {
	for ab := range uint8(64) {
		i := api.Ins{Op: api.OOut, A: ab / 8, B: ab % 8}
		for _, value := range numbers() {
			s := apart(api.PInt)
			s.R[i.A] = value
			want := s
			want.PC = 1002
			does(t, s, i, 7, want, api.Effect{Out: true, Port: int(i.B), Value: value})
			s.PS |= api.PUser
			refuses(t, s, i, api.Forbidden)
		}
	}
}

func TestP9_1InCountsForOInAlone(t *testing.T) {
	for _, s := range states() {
		everyOne(func(i api.Ins) {
			n, e := sense.Do(s, i, 0)
			m, f := sense.Do(s, i, greatest)
			if i.Op != api.OIn && (n != m || e != f) {
				t.Fatalf("Do(%+v, %+v) hangs on in", s, i)
			}
		})
	}
}

func TestP9_1NextPlaceOverTheEnd(t *testing.T) {
	for _, op := range nine() {
		for _, pc := range []uint32{greatest - 2, greatest - 1, greatest} {
			for _, s := range both(api.State{PC: pc}) {
				check(t, s, api.Ins{Op: op}, 7)
				n, e := sense.Do(s, api.Ins{Op: op}, 7)
				if e.Cause == 0 && op != api.OIret && n.PC != pc+uint32(rows[op].bytes) {
					t.Errorf("operation %#x at %#x: next %#x", op, pc, n.PC)
				}
				if e.Cause != 0 && n.PC != pc {
					t.Errorf("operation %#x at %#x: a fault at %#x", op, pc, n.PC)
				}
			}
		}
	}
}

func TestP9_1OtherOperations(t *testing.T) {
	tried := 0
	for _, s := range [][2]api.State{both(api.State{}), both(full(greatest, true)), both(apart(0x68))} {
		for op := range 256 {
			if _, is := rows[uint8(op)]; is {
				continue
			}
			for ab := range uint8(64) {
				i := api.Ins{Op: uint8(op), A: ab / 8, B: ab % 8}
				refuses(t, s[0], i, api.Undecodable)
				refuses(t, s[1], i, api.Undecodable)
				tried++
			}
		}
	}
	if tried != 3*247*64 {
		t.Errorf("%d tried", tried)
	}
}

func TestP9_1HostsOwn(t *testing.T) {
	for _, i := range []api.Ins{{Op: api.OTally}, {Op: api.OTally, Imm: 255}, {Op: api.OLeave}, {Op: api.OLeave, Imm: 65535}} {
		if !isa.May(i, true) {
			t.Fatalf("%+v is no host's", i)
		}
		for _, s := range both(apart(0)) {
			refuses(t, s, i, api.Undecodable)
		}
	}
}

func TestP9_1FieldsThatMayNotBe(t *testing.T) {
	imms := []int32{math.MinInt32, -65536, -256, -128, -1, 1, 8, 127, 128, 255, 256, 65536, math.MaxInt32}
	for _, s := range [][2]api.State{both(api.State{}), both(apart(0x68))} {
		for _, ring := range s {
			for _, op := range nine() {
				for a := range 256 {
					if i := (api.Ins{Op: op, A: uint8(a)}); i.A > rows[op].a {
						refuses(t, ring, i, api.Undecodable)
					}
					if i := (api.Ins{Op: op, B: uint8(a)}); i.B > rows[op].b {
						refuses(t, ring, i, api.Undecodable)
					}
				}
				for _, imm := range imms {
					refuses(t, ring, api.Ins{Op: op, Imm: imm}, api.Undecodable)
				}
			}
		}
	}
}

// TestP9_1TheClassSense: what this layer does is what layer 3 calls Sense.
func TestP9_1TheClassSense(t *testing.T) {
	k := kind.New()
	for op := range 256 {
		_, e := sense.Do(api.State{}, api.Ins{Op: uint8(op)}, 0)
		if is := k.Class(uint8(op)) == api.Sense; is != (e.Cause != api.Undecodable) {
			t.Errorf("operation %#x: class %d, %+v", op, k.Class(uint8(op)), e)
		}
	}
}

// TestP9_1AnEffectHasWhatIsNamed: nothing beside a cause, and only OOut has a
// port and a value.
func TestP9_1AnEffectHasWhatIsNamed(t *testing.T) {
	for _, s := range states() {
		everyOne(func(i api.Ins) {
			_, e := sense.Do(s, i, greatest)
			if e.Cause != 0 && e != (api.Effect{Cause: e.Cause}) {
				t.Fatalf("Do(%+v, %+v) asks %+v beside a cause", s, i, e)
			}
			if i.Op != api.OOut && (e.Out || e.Port != 0 || e.Value != 0) {
				t.Fatalf("Do(%+v, %+v) sends %+v out", s, i, e)
			}
			if i.Op != api.OFlush && i.Op != api.OWrcr && e.Flush {
				t.Fatalf("Do(%+v, %+v) asks to forget", s, i)
			}
		})
	}
}

// TestP9_1AtOnce: giving up in one goroutine turns nothing in another one.
func TestP9_1AtOnce(t *testing.T) {
	ends := make(chan bool)
	for k := range 8 {
		go func() {
			r := rand.New(rand.NewSource(int64(k)))
			same := true
			for range 2000 {
				s, i, in := drawState(r), api.Ins{Op: nine()[r.Intn(9)]}, draw(r)
				want, asks := after(s, i, in)
				n, e := sense.Do(s, i, in)
				same = same && n == want && e == asks
			}
			ends <- same
		}()
	}
	for range 8 {
		if !<-ends {
			t.Error("another answer among several goroutines")
		}
	}
}

// kept asks whether what P9.2 speaks of is as it was.
func kept(s, n api.State) bool {
	const ring = api.PUser | api.PInt | api.PPage
	return n.PS&ring == s.PS&ring && n.CR == s.CR && n.Halted == s.Halted
}

func TestP9_2WhateverTheUserRingDoes(t *testing.T) {
	for _, s := range states() {
		s.PS |= api.PUser
		everyOne(func(i api.Ins) {
			if n, e := sense.Do(s, i, 0x07070707); !kept(s, n) || e.Flush || e.Out {
				t.Fatalf("Do(%+v, %+v) in the user ring: %+v, %+v", s, i, n, e)
			}
		})
	}
}

func TestP9_2AnyInstruction(t *testing.T) {
	r := rand.New(rand.NewSource(92))
	for range 100000 {
		s := drawState(r)
		s.PS |= api.PUser
		i := api.Ins{Op: uint8(r.Intn(256)), A: uint8(r.Intn(16)), B: uint8(r.Intn(16)), Imm: int32(r.Intn(2))}
		if n, e := sense.Do(s, i, draw(r)); !kept(s, n) || e.Flush || e.Out {
			t.Fatalf("Do(%+v, %+v) in the user ring: %+v, %+v", s, i, n, e)
		}
	}
}

// TestP9_2ManyInTurn: however many instructions the user ring has behind it,
// it is still there.
func TestP9_2ManyInTurn(t *testing.T) {
	r := rand.New(rand.NewSource(93))
	for range 50 {
		s := drawState(r)
		s.PS |= api.PUser
		n := s
		for range 200 {
			op := nine()[r.Intn(9)]
			n, _ = sense.Do(n, api.Ins{Op: op, A: uint8(r.Intn(int(rows[op].a) + 1)), B: uint8(r.Intn(int(rows[op].b) + 1))}, draw(r))
		}
		if !kept(s, n) {
			t.Fatalf("from %+v to %+v", s, n)
		}
	}
}
