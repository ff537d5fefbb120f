package kind_test

import (
	"math"
	"slices"
	"sync"
	"testing"

	"mummer/api"
	"mummer/kind"
)

// The test's own reading of the chapter's table goes by its columns, with the
// operations as plain numbers: for each word of a column, who bears it.

func plain() []uint8 {
	return []uint8{0x00, 0x10, 0x11, 0x12, 0x13, 0x14, 0x15, 0x16, 0x17, 0x18, 0x19, 0x1a, 0x1b, 0x1c, 0x1d, 0x1e, 0x1f, 0x20, 0x21}
}
func memory() []uint8 {
	return []uint8{0x30, 0x31, 0x32, 0x33, 0x34, 0x35, 0x36, 0x37, 0x38, 0x39, 0x3a}
}
func control() []uint8 {
	return []uint8{0x40, 0x41, 0x42, 0x43, 0x44, 0x45, 0x46, 0x47, 0x48, 0x49, 0x4a, 0x50}
}
func sense() []uint8 { return []uint8{0x01, 0x02, 0x03, 0x60, 0x61, 0x62, 0x63, 0x64, 0x65} }
func hosts() []uint8 { return []uint8{0x70, 0x71} }

func turns() []uint8 {
	return []uint8{0x11, 0x12, 0x13, 0x14, 0x15, 0x16, 0x17, 0x18, 0x19, 0x1a, 0x1b, 0x1c, 0x1d, 0x1e, 0x1f, 0x21, 0x02, 0x61}
}
func fails() []uint8 {
	return []uint8{0x19, 0x1e, 0x30, 0x31, 0x32, 0x33, 0x34, 0x35, 0x36, 0x37, 0x38, 0x39, 0x3a, 0x50, 0x01, 0x63, 0x64, 0x65}
}
func silent() []uint8 { return []uint8{0x02, 0x03, 0x60, 0x61, 0x62} }

func readsA() []uint8 {
	return []uint8{0x11, 0x12, 0x13, 0x14, 0x15, 0x16, 0x17, 0x18, 0x19, 0x1a, 0x1b, 0x1c, 0x1d, 0x1e, 0x1f, 0x21,
		0x31, 0x33, 0x35, 0x38, 0x3a, 0x49, 0x4a, 0x61, 0x63, 0x65}
}
func readsB() []uint8 {
	return []uint8{0x10, 0x11, 0x12, 0x13, 0x14, 0x15, 0x16, 0x17, 0x18, 0x19, 0x1a, 0x1b, 0x1c, 0x1d, 0x1e, 0x1f,
		0x30, 0x31, 0x32, 0x33, 0x34, 0x35, 0x36, 0x37, 0x3a}
}
func readsStack() []uint8 { return []uint8{0x38, 0x39} }

func writesA() []uint8 {
	return []uint8{0x10, 0x11, 0x12, 0x13, 0x14, 0x15, 0x16, 0x17, 0x18, 0x19, 0x1b, 0x1c, 0x1d, 0x1e, 0x20, 0x21,
		0x30, 0x32, 0x34, 0x36, 0x37, 0x39, 0x3a, 0x60, 0x62, 0x64}
}
func writesStack() []uint8 { return []uint8{0x38, 0x39} }
func writesLink() []uint8  { return []uint8{0x48, 0x4a} }

func among(ops []uint8, op uint8) bool { return slices.Contains(ops, op) }

func wantClass(op uint8) int {
	for class, ops := range [][]uint8{1: plain(), 2: memory(), 3: control(), 4: sense(), 5: hosts()} {
		if among(ops, op) {
			return class
		}
	}
	return 0
}

func wantEnds(op uint8) bool { return among(control(), op) || among(sense(), op) || among(hosts(), op) }

func wantReads(i api.Ins) (set uint8) {
	if !mayBe(i) {
		return 0
	}
	if among(readsA(), i.Op) {
		set |= 1 << i.A
	}
	if among(readsB(), i.Op) {
		set |= 1 << i.B
	}
	if among(readsStack(), i.Op) {
		set |= 0x80
	}
	return set
}

func wantWrites(i api.Ins) (set uint8) {
	if !mayBe(i) {
		return 0
	}
	if among(writesA(), i.Op) {
		set |= 1 << i.A
	}
	if among(writesStack(), i.Op) {
		set |= 0x80
	}
	if among(writesLink(), i.Op) {
		set |= 0x40
	}
	return set
}

// mayBe is the test's own reading of which instructions may be, for a host.
func mayBe(i api.Ins) bool {
	hasA, hasB, low, high := true, true, int64(0), int64(0)
	switch op := i.Op; {
	case op <= 0x03:
		hasA, hasB = false, false
	case 0x10 <= op && op <= 0x1f, op == 0x3a, 0x62 <= op && op <= 0x65:
	case op == 0x20:
		hasB, low, high = false, math.MinInt32, math.MaxInt32
	case op == 0x21:
		hasB, low, high = false, -128, 127
	case 0x30 <= op && op <= 0x37:
		low, high = -128, 127
	case op == 0x38, op == 0x39, op == 0x49, op == 0x4a, op == 0x60, op == 0x61:
		hasB = false
	case 0x40 <= op && op <= 0x48:
		hasA, hasB, low, high = false, false, -32768, 32767
	case op == 0x50, op == 0x70:
		hasA, hasB, high = false, false, 255
	case op == 0x71:
		hasA, hasB, high = false, false, 65535
	default:
		return false
	}
	fits := func(has bool, r uint8) bool { return r == 0 || has && r <= 7 }
	return fits(hasA, i.A) && fits(hasB, i.B) && low <= int64(i.Imm) && int64(i.Imm) <= high
}

// numbers are the ends of every form's range, and one beyond each.
var numbers = []int32{
	0, 1, -1, 5, 127, 128, -128, -129, 255, 256, 32767, 32768, -32768, -32769, 65535, 65536, math.MaxInt32, math.MinInt32,
}

// registers are all that may be, and some that may not: 8 and 16 are 0 in
// three and in four bits.
var registers = []uint8{0, 1, 2, 3, 4, 5, 6, 7, 8, 9, 14, 15, 16, 22, 23, 64, 71, 128, 255}

// everyIns hands out every operation, there or not, with all those fields.
func everyIns(yield func(i api.Ins) bool) {
	for op := range 256 {
		for _, a := range registers {
			for _, b := range registers {
				for _, imm := range numbers {
					if !yield(api.Ins{Op: uint8(op), A: a, B: b, Imm: imm}) {
						return
					}
				}
			}
		}
	}
}

// holdOperation holds all that a table says of an operation against the
// reference.
func holdOperation(t *testing.T, k *kind.Table, op uint8) {
	t.Helper()
	if got, want := k.Class(op), wantClass(op); got != want {
		t.Errorf("Class(%#x) = %d, want %d", op, got, want)
	}
	if got, want := k.Turns(op), among(turns(), op); got != want {
		t.Errorf("Turns(%#x) = %v, want %v", op, got, want)
	}
	if got, want := k.Fails(op), among(fails(), op); got != want {
		t.Errorf("Fails(%#x) = %v, want %v", op, got, want)
	}
	if got, want := k.Silent(op), among(silent(), op); got != want {
		t.Errorf("Silent(%#x) = %v, want %v", op, got, want)
	}
	if got, want := k.Ends(op), wantEnds(op); got != want {
		t.Errorf("Ends(%#x) = %v, want %v", op, got, want)
	}
}

func TestP3_1EveryNumber(t *testing.T) {
	k := kind.New()
	for op := range 256 {
		holdOperation(t, k, uint8(op))
	}
}

// The names, beside the numbers: each row of the chapter's table as it stands.
func TestP3_1EachRow(t *testing.T) {
	k := kind.New()
	for _, x := range []struct {
		ops                  []uint8
		class                int
		turns, fails, silent bool
	}{
		{[]uint8{api.ONop, api.OMov, api.OLdi}, api.Plain, false, false, false},
		{[]uint8{api.OAdd, api.OSub, api.OAnd, api.OOr, api.OXor, api.OShl, api.OShr, api.OMul, api.ORor, api.OSar, api.OMulh}, api.Plain, true, false, false},
		{[]uint8{api.ODiv, api.ORem}, api.Plain, true, true, false},
		{[]uint8{api.OCmp, api.OTst, api.OAddi}, api.Plain, true, false, false},
		{[]uint8{api.OLd, api.OLdb, api.OLdh, api.OLdsb, api.OLdsh, api.OSt, api.OStb, api.OSth}, api.Memory, false, true, false},
		{[]uint8{api.OPush, api.OPop, api.OXchg}, api.Memory, false, true, false},
		{[]uint8{api.OJmp, api.OBeq, api.OBne, api.OBlt, api.OBge, api.OBlo, api.OBhs, api.OBvs}, api.Control, false, false, false},
		{[]uint8{api.OCall, api.OJr, api.OCallr}, api.Control, false, false, false},
		{[]uint8{api.OTrap}, api.Control, false, true, false},
		{[]uint8{api.OHlt, api.OWrcr, api.OIn, api.OOut}, api.Sense, false, true, false},
		{[]uint8{api.OIret, api.OWrps}, api.Sense, true, false, true},
		{[]uint8{api.OFlush, api.ORdps, api.ORdcr}, api.Sense, false, false, true},
		{[]uint8{api.OTally, api.OLeave}, api.Hosts, false, false, false},
	} {
		ends := x.class == api.Control || x.class == api.Sense || x.class == api.Hosts
		for _, op := range x.ops {
			if k.Class(op) != x.class || k.Turns(op) != x.turns || k.Fails(op) != x.fails || k.Silent(op) != x.silent || k.Ends(op) != ends {
				t.Errorf("%#x: class %d, turns %v, fails %v, silent %v, ends %v", op, k.Class(op), k.Turns(op), k.Fails(op), k.Silent(op), k.Ends(op))
			}
		}
	}
}

func TestP3_1NoOperation(t *testing.T) {
	k := kind.New()
	for _, op := range []uint8{0x04, 0x0f, 0x22, 0x2f, 0x3b, 0x3f, 0x4b, 0x4f, 0x51, 0x5f, 0x66, 0x6f, 0x72, 0x7f, 0x80, 0xff} {
		if k.Class(op) != api.NoClass || k.Turns(op) || k.Fails(op) || k.Silent(op) || k.Ends(op) {
			t.Errorf("%#x is no operation", op)
		}
	}
}

func TestP3_1AskedAgain(t *testing.T) {
	k := kind.New()
	for range 3 {
		for op := 255; op >= 0; op-- {
			holdOperation(t, k, uint8(op))
		}
	}
}

// Two tables know the same, whichever is asked first, and with what.
func TestP3_1TwoTables(t *testing.T) {
	first, second := kind.New(), kind.New()
	if first == nil || second == nil || first == second {
		t.Fatal("New must make a table of its own each time")
	}
	if second.Class(0xff) != api.NoClass || first.Class(api.OLd) != api.Memory {
		t.Error("asked first")
	}
	for op := range 256 {
		holdOperation(t, first, uint8(op))
		holdOperation(t, second, uint8(op))
	}
}

// Each question may be the first one that a table is asked.
func TestP3_1AnyQuestionFirst(t *testing.T) {
	if !kind.New().Turns(api.OAdd) || !kind.New().Fails(api.OTrap) || !kind.New().Silent(api.OFlush) || !kind.New().Ends(api.OLeave) {
		t.Error("an ask of a new table")
	}
	if kind.New().Reads(api.Ins{Op: api.OMov, A: 1, B: 2}) != 4 || kind.New().Writes(api.Ins{Op: api.OMov, A: 1, B: 2}) != 2 {
		t.Error("a set of a new table")
	}
}

func TestP3_1AskedByMany(t *testing.T) {
	k := kind.New()
	var all sync.WaitGroup
	for range 8 {
		all.Go(func() {
			for op := range 256 {
				holdOperation(t, k, uint8(op))
			}
		})
	}
	all.Wait()
}

func TestP3_2EveryInstruction(t *testing.T) {
	k := kind.New()
	for i := range everyIns {
		if got, want := k.Reads(i), wantReads(i); got != want {
			t.Fatalf("Reads(%+v) = %#x, want %#x", i, got, want)
		}
		if got, want := k.Writes(i), wantWrites(i); got != want {
			t.Fatalf("Writes(%+v) = %#x, want %#x", i, got, want)
		}
	}
}

func TestP3_2Sets(t *testing.T) {
	k := kind.New()
	for _, x := range []struct {
		i             api.Ins
		reads, writes uint8
	}{
		{api.Ins{Op: api.ONop}, 0, 0},
		{api.Ins{Op: api.OMov, A: 1, B: 2}, 1 << 2, 1 << 1},
		{api.Ins{Op: api.OMov, A: 3, B: 3}, 1 << 3, 1 << 3},
		{api.Ins{Op: api.OXor, A: 0, B: 7}, 1<<0 | 1<<7, 1 << 0},
		{api.Ins{Op: api.OXor, A: 5, B: 5}, 1 << 5, 1 << 5},
		{api.Ins{Op: api.ODiv, A: 4, B: 0}, 1<<4 | 1<<0, 1 << 4},
		{api.Ins{Op: api.OCmp, A: 6, B: 7}, 1<<6 | 1<<7, 0},
		{api.Ins{Op: api.OTst, A: 0, B: 0}, 1 << 0, 0},
		{api.Ins{Op: api.OLdi, A: 7, Imm: math.MinInt32}, 0, 1 << 7},
		{api.Ins{Op: api.OAddi, A: 6, Imm: -128}, 1 << 6, 1 << 6},
		{api.Ins{Op: api.OLd, A: 1, B: 7, Imm: 127}, 1 << 7, 1 << 1},
		{api.Ins{Op: api.OStb, A: 1, B: 6, Imm: -1}, 1<<1 | 1<<6, 0},
		{api.Ins{Op: api.OPush, A: 2}, 1<<2 | 1<<api.StackReg, 1 << api.StackReg},
		{api.Ins{Op: api.OPush, A: api.StackReg}, 1 << api.StackReg, 1 << api.StackReg},
		{api.Ins{Op: api.OPop, A: 2}, 1 << api.StackReg, 1<<2 | 1<<api.StackReg},
		{api.Ins{Op: api.OPop, A: api.StackReg}, 1 << api.StackReg, 1 << api.StackReg},
		{api.Ins{Op: api.OPop, A: api.LinkReg}, 1 << api.StackReg, 1<<api.LinkReg | 1<<api.StackReg},
		{api.Ins{Op: api.OXchg, A: 2, B: 3}, 1<<2 | 1<<3, 1 << 2},
		{api.Ins{Op: api.OJmp, Imm: -32768}, 0, 0},
		{api.Ins{Op: api.OBvs, Imm: 32767}, 0, 0},
		{api.Ins{Op: api.OCall, Imm: 5}, 0, 1 << api.LinkReg},
		{api.Ins{Op: api.OJr, A: api.LinkReg}, 1 << api.LinkReg, 0},
		{api.Ins{Op: api.OCallr, A: 0}, 1 << 0, 1 << api.LinkReg},
		{api.Ins{Op: api.OCallr, A: api.LinkReg}, 1 << api.LinkReg, 1 << api.LinkReg},
		{api.Ins{Op: api.OTrap, Imm: 255}, 0, 0},
		{api.Ins{Op: api.OIret}, 0, 0},
		{api.Ins{Op: api.ORdps, A: 3}, 0, 1 << 3},
		{api.Ins{Op: api.OWrps, A: 3}, 1 << 3, 0},
		{api.Ins{Op: api.ORdcr, A: 3, B: 5}, 0, 1 << 3},
		{api.Ins{Op: api.OWrcr, A: 3, B: 5}, 1 << 3, 0},
		{api.Ins{Op: api.OIn, A: 0, B: 7}, 0, 1 << 0},
		{api.Ins{Op: api.OOut, A: 0, B: 7}, 1 << 0, 0},
		{api.Ins{Op: api.OTally, Imm: 255}, 0, 0},
		{api.Ins{Op: api.OLeave, Imm: 65535}, 0, 0},
	} {
		if r, w := k.Reads(x.i), k.Writes(x.i); r != x.reads || w != x.writes {
			t.Errorf("%+v reads %#x, writes %#x; want %#x, %#x", x.i, r, w, x.reads, x.writes)
		}
	}
}

func TestP3_2MayNotBe(t *testing.T) {
	k := kind.New()
	for _, i := range []api.Ins{
		{Op: 0x04},
		{Op: 0x72, A: 1, B: 2},
		{Op: 0xff, A: 1},
		{Op: api.OAdd, A: 8, B: 1},
		{Op: api.OAdd, A: 1, B: 8},
		{Op: api.OAdd, A: 255, B: 255},
		{Op: api.OAdd, A: 1, B: 2, Imm: 1},
		{Op: api.OLdi, A: 1, B: 1},
		{Op: api.OLdi, A: 8},
		{Op: api.OAddi, A: 1, Imm: 128},
		{Op: api.OAddi, A: 1, Imm: -129},
		{Op: api.OLd, A: 1, B: 2, Imm: 128},
		{Op: api.OSt, A: 1, B: 2, Imm: -129},
		{Op: api.OPush, A: 1, B: 1},
		{Op: api.OPush, A: 8},
		{Op: api.OPop, A: 1, Imm: 1},
		{Op: api.OCall, A: 1, Imm: 5},
		{Op: api.OCall, B: 1, Imm: 5},
		{Op: api.OCall, Imm: 32768},
		{Op: api.OCall, Imm: -32769},
		{Op: api.OCallr, A: 1, B: 1},
		{Op: api.OCallr, A: 1, Imm: -1},
		{Op: api.ORdcr, A: 1, B: 8},
		{Op: api.ORdps, A: 1, B: 1},
		{Op: api.OOut, A: 9},
	} {
		if r, w := k.Reads(i), k.Writes(i); r != 0 || w != 0 {
			t.Errorf("%+v may not be, but reads %#x, writes %#x", i, r, w)
		}
	}
}

func TestP3_3NotMade(t *testing.T) {
	var none *kind.Table
	for name, k := range map[string]*kind.Table{"nil": none, "not made": {}, "new": new(kind.Table)} {
		t.Run(name, func(t *testing.T) {
			for op := range 256 {
				o := uint8(op)
				if k.Class(o) != 0 || k.Turns(o) || k.Fails(o) || k.Silent(o) || k.Ends(o) {
					t.Errorf("it knows something of %#x", o)
				}
				for _, i := range []api.Ins{{Op: o}, {Op: o, A: 1}, {Op: o, A: 1, B: 2}, {Op: o, A: 9}} {
					if k.Reads(i) != 0 || k.Writes(i) != 0 {
						t.Errorf("it knows registers of %+v", i)
					}
				}
			}
		})
	}
}

// A table that was made does not teach one that was not.
func TestP3_3BesideOneThatWasMade(t *testing.T) {
	if kind.New().Class(api.OLd) != api.Memory {
		t.Error("one that was made")
	}
	if (&kind.Table{}).Class(api.OLd) != api.NoClass || (&kind.Table{}).Writes(api.Ins{Op: api.OCall}) != 0 {
		t.Error("one that was not")
	}
}

func TestP3_4SilentIsSense(t *testing.T) {
	k := kind.New()
	found := 0
	for op := range 256 {
		if !k.Silent(uint8(op)) {
			continue
		}
		found++
		if k.Class(uint8(op)) != api.Sense || k.Fails(uint8(op)) {
			t.Errorf("%#x is silent, of class %d, fails %v", op, k.Class(uint8(op)), k.Fails(uint8(op)))
		}
	}
	if found != 5 {
		t.Errorf("%d operations are silent, want 5", found)
	}
}

func TestExamples(t *testing.T) {
	k := kind.New()
	if k.Class(api.OLd) != api.Memory || k.Class(0x04) != api.NoClass || k.Class(api.OTally) != api.Hosts {
		t.Error("classes")
	}
	add := api.Ins{Op: api.OAdd, A: 1, B: 2}
	if k.Reads(add) != 6 || k.Writes(add) != 2 {
		t.Error("OAdd 1 2")
	}
	if k.Reads(api.Ins{Op: api.OSt, A: 1, B: 1}) != 2 {
		t.Error("OSt 1 1")
	}
	if k.Writes(api.Ins{Op: api.OCall, Imm: 5}) != 64 {
		t.Error("OCall 5")
	}
	if !k.Silent(api.OIret) || k.Silent(api.OHlt) || !k.Ends(api.OTrap) || k.Ends(api.ODiv) {
		t.Error("asks")
	}
}
