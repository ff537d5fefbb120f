package core_test

import (
	"math"
	"math/rand"
	"testing"

	"mummer/api"
	"mummer/core"
	"mummer/flags"
	"mummer/isa"
	"mummer/kind"
)

const greatest = math.MaxUint32

// The test's own reading of the chapter goes by the operations' plain numbers,
// and by numbers of 64 bits that are cut to 32 behind each sum.

func cut(a int64) uint32 { return uint32(((a % (1 << 32)) + 1<<32) % (1 << 32)) }

// sizes are the bytes of each operation's instructions; none: it is none of
// this layer.
var sizes = sizesByOperation()

func sizesByOperation() map[uint8]int64 {
	all := map[uint8]int64{0x00: 1, 0x20: 6, 0x21: 3, 0x38: 2, 0x39: 2, 0x3a: 2, 0x48: 3, 0x49: 2, 0x4a: 2, 0x50: 2}
	for op := uint8(0x10); op <= 0x1f; op++ {
		all[op] = 2
	}
	for op := uint8(0x30); op <= 0x37; op++ {
		all[op] = 3
	}
	for op := uint8(0x40); op <= 0x47; op++ {
		all[op] = 3
	}
	return all
}

// ofLayer asks whether an instruction is one of this layer: the operation, and
// of A, B and Imm what its form has.
func ofLayer(i api.Ins) bool {
	if sizes[i.Op] == 0 {
		return false
	}
	a, b, low, high := uint8(0), uint8(0), int64(0), int64(0)
	switch i.Op {
	case 0x20:
		a, low, high = 7, math.MinInt32, math.MaxInt32
	case 0x21:
		a, low, high = 7, -128, 127
	case 0x30, 0x31, 0x32, 0x33, 0x34, 0x35, 0x36, 0x37:
		a, b, low, high = 7, 7, -128, 127
	case 0x38, 0x39, 0x49, 0x4a:
		a = 7
	case 0x40, 0x41, 0x42, 0x43, 0x44, 0x45, 0x46, 0x47, 0x48:
		low, high = -32768, 32767
	case 0x50:
		high = 255
	case 0x00:
	default:
		a, b = 7, 7
	}
	return i.A <= a && i.B <= b && low <= int64(i.Imm) && int64(i.Imm) <= high
}

// bytesOf are how many bytes an operation's access has, below 0 of what
// writes; 0 of an operation without one.
func bytesOf(op uint8) int64 {
	return [256]int64{
		0x30: 4, 0x31: -4, 0x32: 1, 0x33: -1, 0x34: 2, 0x35: -2, 0x36: 1, 0x37: 2,
		0x38: -4, 0x39: 4, 0x3a: -4,
	}[op]
}

func wish(s api.State, i api.Ins) (api.Access, api.Fault) {
	size := bytesOf(i.Op)
	if size == 0 || !ofLayer(i) {
		return api.Access{}, api.Fault{}
	}
	at := cut(int64(s.R[i.B]) + int64(i.Imm))
	switch i.Op {
	case 0x38:
		at = cut(int64(s.R[7]) - 4)
	case 0x39:
		at = s.R[7]
	}
	a := api.Access{Kind: 2, Addr: at, Size: int(size)}
	if size < 0 {
		size = -size
		a = api.Access{Kind: 3, Addr: at, Size: int(size), Value: cut(int64(s.R[i.A]) % (1 << (8 * size)))}
	}
	if int64(at)%size != 0 {
		return api.Access{}, api.Fault{Cause: 4, Addr: at}
	}
	return a, api.Fault{}
}

// reckonings are layer 1's calls, by the operations of two registers that have
// them; those that may have no result (0x19, 0x1e) and 0x10 are not here.
var reckonings = map[uint8]func(a, b uint32) (uint32, uint32){
	0x11: flags.Add, 0x12: flags.Sub, 0x13: flags.And, 0x14: flags.Or, 0x15: flags.Xor,
	0x16: flags.Shl, 0x17: flags.Shr, 0x18: flags.Mul, 0x1a: flags.Sub, 0x1b: flags.Ror,
	0x1c: flags.Sar, 0x1d: flags.Mulh, 0x1f: flags.And,
}

// signedOf is a number of so many bits, with its sign.
func signedOf(v uint32, bits int) uint32 {
	n := int64(v) % (1 << bits)
	if n >= 1<<(bits-1) {
		n -= 1 << bits
	}
	return cut(n)
}

func after(s api.State, i api.Ins, v uint32) (api.State, api.Fault) {
	if !ofLayer(i) {
		return s, api.Fault{Cause: 1, Addr: s.PC}
	}
	if _, f := wish(s, i); f.Cause != 0 {
		return s, f
	}
	n := s
	next := cut(int64(s.PC) + sizes[i.Op])
	n.PC = next
	flagged := func(left uint32) { n.PS = cut(int64(s.PS) - int64(s.PS&0xf0) + int64(left)) }
	switch op := i.Op; op {
	case 0x10:
		n.R[i.A] = s.R[i.B]
	case 0x19, 0x1e:
		if s.R[i.B] == 0 {
			return s, api.Fault{Cause: 3}
		}
		result, left, _ := flags.Div(s.R[i.A], s.R[i.B])
		if op == 0x1e {
			result, left, _ = flags.Rem(s.R[i.A], s.R[i.B])
		}
		n.R[i.A] = result
		flagged(left)
	case 0x1a, 0x1f:
		_, left := reckonings[op](s.R[i.A], s.R[i.B])
		flagged(left)
	case 0x20:
		n.R[i.A] = cut(int64(i.Imm))
	case 0x21:
		result, left := flags.Add(s.R[i.A], cut(int64(i.Imm)))
		n.R[i.A] = result
		flagged(left)
	case 0x30, 0x3a:
		n.R[i.A] = v
	case 0x32:
		n.R[i.A] = v % 256
	case 0x34:
		n.R[i.A] = v % 65536
	case 0x36:
		n.R[i.A] = signedOf(v, 8)
	case 0x37:
		n.R[i.A] = signedOf(v, 16)
	case 0x38:
		n.R[7] = cut(int64(s.R[7]) - 4)
	case 0x39:
		n.R[7] = cut(int64(s.R[7]) + 4)
		n.R[i.A] = v
	case 0x40, 0x41, 0x42, 0x43, 0x44, 0x45, 0x46, 0x47:
		if flags.Holds(int(op)-0x40, s.PS) {
			n.PC = cut(int64(next) + int64(i.Imm))
		}
	case 0x48:
		n.R[6], n.PC = next, cut(int64(next)+int64(i.Imm))
	case 0x49:
		n.PC = s.R[i.A]
	case 0x4a:
		n.R[6], n.PC = next, s.R[i.A]
	case 0x50:
		return s, api.Fault{Cause: 8, Addr: cut(int64(i.Imm))}
	case 0x00, 0x31, 0x33, 0x35:
	default:
		result, left := reckonings[op](s.R[i.A], s.R[i.B])
		n.R[i.A] = result
		flagged(left)
	}
	return n, api.Fault{}
}

// hold asks Want and Do of one state and one instruction as the test's own
// reading has them.
func hold(t *testing.T, s api.State, i api.Ins, v uint32) {
	t.Helper()
	a, f := core.Want(s, i)
	if wa, wf := wish(s, i); a != wa || f != wf {
		t.Fatalf("Want(%+v, %+v) = %+v, %+v, want %+v, %+v", s, i, a, f, wa, wf)
	}
	n, f := core.Do(s, i, v)
	if wn, wf := after(s, i, v); n != wn || f != wf {
		t.Fatalf("Do(%+v, %+v, %d) = %+v, %+v, want %+v, %+v", s, i, v, n, f, wn, wf)
	}
}

func does(t *testing.T, s api.State, i api.Ins, v uint32, want api.State) {
	t.Helper()
	if n, f := core.Do(s, i, v); n != want || f != (api.Fault{}) {
		t.Errorf("Do(%+v, %+v, %#x) = %+v, %+v, want %+v", s, i, v, n, f, want)
	}
}

func refuses(t *testing.T, s api.State, i api.Ins, cause int, addr uint32) {
	t.Helper()
	if n, f := core.Do(s, i, 5); n != s || f != (api.Fault{Cause: cause, Addr: addr}) {
		t.Errorf("Do(%+v, %+v) = %+v, %+v, want the fault %d, %#x, and the state as it was", s, i, n, f, cause, addr)
	}
}

func wants(t *testing.T, s api.State, i api.Ins, want api.Access) {
	t.Helper()
	if a, f := core.Want(s, i); a != want || f != (api.Fault{}) {
		t.Errorf("Want(%+v, %+v) = %+v, %+v, want %+v", s, i, a, f, want)
	}
}

func misaligned(t *testing.T, s api.State, i api.Ins, at uint32) {
	t.Helper()
	want := api.Fault{Cause: api.Misaligned, Addr: at}
	if a, f := core.Want(s, i); a != (api.Access{}) || f != want {
		t.Errorf("Want(%+v, %+v) = %+v, %+v, want %+v", s, i, a, f, want)
	}
	refuses(t, s, i, api.Misaligned, at)
}

// numbers are edges that registers, places and values may have.
func numbers() []uint32 {
	return []uint32{0, 1, 2, 3, 4, 6, 127, 128, 255, 256, 32767, 32768, 65535, 65536, 0xff80, 0x8080,
		1<<31 - 1, 1 << 31, 1<<31 + 1, greatest - 5, greatest - 4, greatest - 3, greatest - 2, greatest - 1, greatest}
}

func draw(r *rand.Rand) uint32 {
	if all := numbers(); r.Intn(2) == 0 {
		return all[r.Intn(len(all))]
	}
	return r.Uint32()
}

func drawState(r *rand.Rand) api.State {
	s := api.State{PC: draw(r), PS: draw(r), Halted: r.Intn(2) == 0}
	for k := range s.R {
		s.R[k], s.CR[k] = draw(r), draw(r)
	}
	return s
}

// full is a state of which all numbers are the same one.
func full(n uint32, halted bool) api.State {
	s := api.State{PC: n, PS: n, Halted: halted}
	for k := range s.R {
		s.R[k], s.CR[k] = n, n
	}
	return s
}

// imms are numbers at the ends of all forms, and one beyond them.
func imms() []int32 {
	return []int32{math.MinInt32, -65537, -32769, -32768, -129, -128, -4, -3, -2, -1, 0, 1, 2, 3, 4,
		127, 128, 255, 256, 32767, 32768, 65535, 65536, math.MaxInt32}
}

// drawIns is an instruction that may be, more often than not.
func drawIns(r *rand.Rand) api.Ins {
	i := api.Ins{Op: uint8(r.Intn(256)), A: uint8(r.Intn(8)), B: uint8(r.Intn(8)), Imm: int32(r.Intn(256) - 128)}
	if r.Intn(8) == 0 {
		i.A, i.B = uint8(r.Intn(256)), uint8(r.Intn(256))
	}
	switch r.Intn(4) {
	case 0:
		i.Imm = imms()[r.Intn(len(imms()))]
	case 1:
		i.Imm = int32(r.Uint32())
	}
	if r.Intn(8) != 0 {
		i = fit(i)
	}
	return i
}

// fit takes from an instruction what its form does not have.
func fit(i api.Ins) api.Ins {
	for _, fields := range [][2]uint8{{i.A, i.B}, {i.A, 0}, {0, 0}} {
		for _, imm := range []int32{i.Imm, int32(int16(i.Imm)), i.Imm & 127, 0} {
			if j := (api.Ins{Op: i.Op, A: fields[0], B: fields[1], Imm: imm}); isa.May(j, false) {
				return j
			}
		}
	}
	return i
}

// everyForm goes over each operation with each A and B, and with each of imms
// that its form may have.
func everyForm(yield func(api.Ins)) {
	for op := range 256 {
		for ab := range 64 {
			for _, imm := range imms() {
				if i := (api.Ins{Op: uint8(op), A: uint8(ab / 8), B: uint8(ab % 8), Imm: imm}); isa.May(i, true) {
					yield(i)
				}
			}
		}
	}
}

func sense() []uint8 { return []uint8{0x01, 0x02, 0x03, 0x60, 0x61, 0x62, 0x63, 0x64, 0x65} }

func TestExamples(t *testing.T) {
	s := api.State{PC: 100}
	s.R[1], s.R[2] = 7, 2
	want := s
	want.R[1], want.PC = 5, 102
	does(t, s, api.Ins{Op: api.OSub, A: 1, B: 2}, 0, want)
	want = s
	want.PC, want.PS = 102, api.FN|api.FC
	does(t, s, api.Ins{Op: api.OCmp, A: 2, B: 1}, 0, want)
	less := s
	less.PS = api.FN
	want = less
	want.PC = 113
	does(t, less, api.Ins{Op: api.OBlt, Imm: 10}, 0, want)
	want = s
	want.R[6], want.PC = 103, 100
	does(t, s, api.Ins{Op: api.OCall, Imm: -3}, 0, want)
	load := api.Ins{Op: api.OLd, A: 3, B: 2, Imm: 2}
	wants(t, s, load, api.Access{Kind: api.Read, Addr: 4, Size: 4})
	want = s
	want.R[3], want.PC = 9, 103
	does(t, s, load, 9, want)
	misaligned(t, s, api.Ins{Op: api.OLd, A: 3, B: 1}, 7)
	refuses(t, s, api.Ins{Op: api.ODiv, A: 1}, api.Division, 0)
	refuses(t, s, api.Ins{Op: api.OHlt}, api.Undecodable, 100)
}

func TestP8_1EachAccess(t *testing.T) {
	s := api.State{PC: 3}
	s.R = [8]uint32{1: 0x89abcdef, 2: 64, 7: 256}
	for _, c := range []struct {
		i    api.Ins
		want api.Access
	}{
		{api.Ins{Op: api.OLd, A: 1, B: 2, Imm: 4}, api.Access{Kind: api.Read, Addr: 68, Size: 4}},
		{api.Ins{Op: api.OLdb, A: 1, B: 2, Imm: 5}, api.Access{Kind: api.Read, Addr: 69, Size: 1}},
		{api.Ins{Op: api.OLdh, A: 1, B: 2, Imm: 6}, api.Access{Kind: api.Read, Addr: 70, Size: 2}},
		{api.Ins{Op: api.OLdsb, A: 1, B: 2, Imm: 7}, api.Access{Kind: api.Read, Addr: 71, Size: 1}},
		{api.Ins{Op: api.OLdsh, A: 1, B: 2, Imm: -2}, api.Access{Kind: api.Read, Addr: 62, Size: 2}},
		{api.Ins{Op: api.OSt, A: 1, B: 2, Imm: -4}, api.Access{Kind: api.Write, Addr: 60, Size: 4, Value: 0x89abcdef}},
		{api.Ins{Op: api.OStb, A: 1, B: 2, Imm: -1}, api.Access{Kind: api.Write, Addr: 63, Size: 1, Value: 0xef}},
		{api.Ins{Op: api.OSth, A: 1, B: 2}, api.Access{Kind: api.Write, Addr: 64, Size: 2, Value: 0xcdef}},
		{api.Ins{Op: api.OPush, A: 1}, api.Access{Kind: api.Write, Addr: 252, Size: 4, Value: 0x89abcdef}},
		{api.Ins{Op: api.OPop, A: 1}, api.Access{Kind: api.Read, Addr: 256, Size: 4}},
		{api.Ins{Op: api.OXchg, A: 1, B: 2}, api.Access{Kind: api.Write, Addr: 64, Size: 4, Value: 0x89abcdef}},
	} {
		wants(t, s, c.i, c.want)
	}
}

func TestP8_1OneRegister(t *testing.T) {
	s := api.State{}
	s.R[3], s.R[7] = 0x10104, 0x20200
	wants(t, s, api.Ins{Op: api.OSt, A: 3, B: 3, Imm: 4}, api.Access{Kind: api.Write, Addr: 0x10108, Size: 4, Value: 0x10104})
	wants(t, s, api.Ins{Op: api.OStb, A: 3, B: 3, Imm: 1}, api.Access{Kind: api.Write, Addr: 0x10105, Size: 1, Value: 4})
	wants(t, s, api.Ins{Op: api.OSth, A: 3, B: 3, Imm: -2}, api.Access{Kind: api.Write, Addr: 0x10102, Size: 2, Value: 0x104})
	wants(t, s, api.Ins{Op: api.OXchg, A: 3, B: 3}, api.Access{Kind: api.Write, Addr: 0x10104, Size: 4, Value: 0x10104})
	wants(t, s, api.Ins{Op: api.OLd, A: 3, B: 3}, api.Access{Kind: api.Read, Addr: 0x10104, Size: 4})
	wants(t, s, api.Ins{Op: api.OPush, A: 7}, api.Access{Kind: api.Write, Addr: 0x201fc, Size: 4, Value: 0x20200})
	wants(t, s, api.Ins{Op: api.OPop, A: 7}, api.Access{Kind: api.Read, Addr: 0x20200, Size: 4})
}

func TestP8_1SumsOf32Bits(t *testing.T) {
	s := api.State{}
	s.R[1], s.R[2] = greatest, 9
	wants(t, s, api.Ins{Op: api.OLd, A: 2, B: 1, Imm: 1}, api.Access{Kind: api.Read, Size: 4})
	wants(t, s, api.Ins{Op: api.OStb, A: 2, B: 1, Imm: 127}, api.Access{Kind: api.Write, Addr: 126, Size: 1, Value: 9})
	wants(t, s, api.Ins{Op: api.OLdb, A: 2, Imm: -128}, api.Access{Kind: api.Read, Addr: greatest - 127, Size: 1})
	wants(t, s, api.Ins{Op: api.OSt, A: 2, Imm: -4}, api.Access{Kind: api.Write, Addr: greatest - 3, Size: 4, Value: 9})
	misaligned(t, s, api.Ins{Op: api.OLdh, A: 2, Imm: -1}, greatest)
	misaligned(t, s, api.Ins{Op: api.OLd, A: 2, B: 1, Imm: 2}, 1)
}

func TestP8_1StackAtTheEdges(t *testing.T) {
	s := api.State{}
	s.R[1] = 5
	wants(t, s, api.Ins{Op: api.OPush, A: 1}, api.Access{Kind: api.Write, Addr: greatest - 3, Size: 4, Value: 5})
	wants(t, s, api.Ins{Op: api.OPush, A: 7}, api.Access{Kind: api.Write, Addr: greatest - 3, Size: 4})
	wants(t, s, api.Ins{Op: api.OPop, A: 1}, api.Access{Kind: api.Read, Size: 4})
	s.R[7] = greatest
	misaligned(t, s, api.Ins{Op: api.OPush, A: 1}, greatest-4)
	misaligned(t, s, api.Ins{Op: api.OPop, A: 1}, greatest)
	misaligned(t, s, api.Ins{Op: api.OPop, A: 7}, greatest)
	s.R[7] = greatest - 3
	wants(t, s, api.Ins{Op: api.OPop, A: 7}, api.Access{Kind: api.Read, Addr: greatest - 3, Size: 4})
	s.R[7] = 4
	wants(t, s, api.Ins{Op: api.OPush, A: 7}, api.Access{Kind: api.Write, Size: 4, Value: 4})
	s.R[7] = 2
	misaligned(t, s, api.Ins{Op: api.OPush, A: 1}, greatest-1)
}

func TestP8_1Misaligned(t *testing.T) {
	four := []uint8{api.OLd, api.OSt, api.OXchg}
	two := []uint8{api.OLdh, api.OSth, api.OLdsh}
	one := []uint8{api.OLdb, api.OStb, api.OLdsb}
	for at := uint32(96); at < 104; at++ {
		s := api.State{PC: 1}
		s.R[5] = at
		ask := func(op uint8, size uint32) {
			i := api.Ins{Op: op, A: 4, B: 5}
			if at%size != 0 {
				misaligned(t, s, i, at)
			} else if a, f := core.Want(s, i); a.Addr != at || a.Size != int(size) || f.Cause != 0 {
				t.Errorf("Want(%+v) at %d = %+v, %+v", i, at, a, f)
			}
		}
		for k := range four {
			ask(four[k], 4)
			ask(two[k], 2)
			ask(one[k], 1)
		}
	}
}

func TestP8_1NoAccess(t *testing.T) {
	s := full(greatest, false)
	for op := range 256 {
		for _, i := range []api.Ins{{Op: uint8(op)}, {Op: uint8(op), A: 1}, {Op: uint8(op), A: 1, B: 2}, {Op: uint8(op), Imm: 1}} {
			if bytesOf(i.Op) == 0 {
				wants(t, s, i, api.Access{})
			}
		}
	}
	for _, i := range []api.Ins{{Op: api.OLd, A: 8}, {Op: api.OLd, B: 8}, {Op: api.OSt, A: 255}, {Op: api.OStb, B: 255}, {Op: api.OLdb, Imm: 128},
		{Op: api.OSth, Imm: -129}, {Op: api.OPush, B: 1}, {Op: api.OPush, A: 8}, {Op: api.OPop, Imm: 1}, {Op: api.OPop, A: 8}, {Op: api.OXchg, Imm: 4}, {Op: api.OXchg, B: 9}} {
		wants(t, s, i, api.Access{})
		refuses(t, s, i, api.Undecodable, greatest)
	}
}

func TestP8_1EveryFormFromManyStates(t *testing.T) {
	r := rand.New(rand.NewSource(81))
	states := []api.State{{}, full(greatest, true), full(4, false), drawState(r), drawState(r)}
	everyForm(func(i api.Ins) {
		for _, s := range states {
			hold(t, s, i, draw(r))
		}
	})
}

func TestP8_2NoneOfThisLayer(t *testing.T) {
	for _, pc := range []uint32{0, 100, greatest} {
		s := full(7, true)
		s.PC = pc
		for _, op := range sense() {
			i := fit(api.Ins{Op: op, A: 1, B: 2})
			if !isa.May(i, false) {
				t.Fatal(i)
			}
			refuses(t, s, i, api.Undecodable, pc)
		}
		for _, i := range []api.Ins{{Op: api.OTally}, {Op: api.OTally, Imm: 9}, {Op: api.OLeave, Imm: 65535}, {Op: 0x04}, {Op: 0xff}, {Op: 0x22}, {Op: 0x3b}, {Op: 0x4b},
			{Op: 0x51}, {Op: api.OAdd, A: 8}, {Op: api.OAdd, B: 8}, {Op: api.OMov, Imm: 1}, {Op: api.OLdi, B: 1}, {Op: api.OAddi, Imm: 128}, {Op: api.OAddi, Imm: -129},
			{Op: api.OJmp, Imm: 32768}, {Op: api.OCall, Imm: -32769}, {Op: api.OJmp, A: 1}, {Op: api.OJr, A: 8}, {Op: api.OJr, B: 1}, {Op: api.OCallr, Imm: 1},
			{Op: api.OTrap, Imm: -1}, {Op: api.OTrap, Imm: 256}, {Op: api.ONop, A: 1}, {Op: api.ODiv, A: 1, B: 200}, {Op: api.OXchg, Imm: -1}} {
			refuses(t, s, i, api.Undecodable, pc)
		}
	}
}

func TestP8_2Faults(t *testing.T) {
	s := full(3, false)
	s.R[2] = 0
	refuses(t, s, api.Ins{Op: api.OTrap}, api.Asked, 0)
	refuses(t, s, api.Ins{Op: api.OTrap, Imm: 255}, api.Asked, 255)
	refuses(t, s, api.Ins{Op: api.ODiv, A: 1, B: 2}, api.Division, 0)
	refuses(t, s, api.Ins{Op: api.ORem, A: 1, B: 2}, api.Division, 0)
	refuses(t, s, api.Ins{Op: api.ODiv, A: 2, B: 2}, api.Division, 0)
	refuses(t, s, api.Ins{Op: api.OSt, A: 2, B: 1}, api.Misaligned, 3)
	refuses(t, s, api.Ins{Op: api.OPush, A: 2}, api.Misaligned, greatest)
	refuses(t, s, api.Ins{Op: api.OPop, A: 2}, api.Misaligned, 3)
	refuses(t, s, api.Ins{Op: api.OXchg, A: 2, B: 1}, api.Misaligned, 3)
	refuses(t, s, api.Ins{Op: api.OLdsh, A: 2, Imm: 4}, api.Misaligned, 7)
}

func TestP8_2Plain(t *testing.T) {
	s := full(1000, true)
	s.PS = api.PMask
	s.R[1], s.R[2] = 17, 5
	turned := func(a, ps uint32, size uint32) api.State {
		n := s
		n.R[1], n.PS, n.PC = a, ps, 1000+size
		return n
	}
	ring := api.PUser | api.PInt | api.PPage
	for _, c := range []struct {
		i    api.Ins
		want api.State
	}{
		{api.Ins{Op: api.ONop}, turned(17, api.PMask, 1)},
		{api.Ins{Op: api.OMov, A: 1, B: 2}, turned(5, api.PMask, 2)},
		{api.Ins{Op: api.OAdd, A: 1, B: 2}, turned(22, ring, 2)},
		{api.Ins{Op: api.OSub, A: 1, B: 2}, turned(12, ring, 2)},
		{api.Ins{Op: api.OSub, A: 1, B: 1}, turned(0, ring|api.FZ, 2)},
		{api.Ins{Op: api.OAnd, A: 1, B: 2}, turned(1, ring, 2)},
		{api.Ins{Op: api.OOr, A: 1, B: 2}, turned(21, ring, 2)},
		{api.Ins{Op: api.OXor, A: 1, B: 2}, turned(20, ring, 2)},
		{api.Ins{Op: api.OShl, A: 1, B: 2}, turned(544, ring, 2)},
		{api.Ins{Op: api.OShr, A: 1, B: 2}, turned(0, ring|api.FZ|api.FC, 2)},
		{api.Ins{Op: api.OMul, A: 1, B: 2}, turned(85, ring, 2)},
		{api.Ins{Op: api.ODiv, A: 1, B: 2}, turned(3, ring, 2)},
		{api.Ins{Op: api.ORem, A: 1, B: 2}, turned(2, ring, 2)},
		{api.Ins{Op: api.OCmp, A: 1, B: 2}, turned(17, ring, 2)},
		{api.Ins{Op: api.OCmp, A: 2, B: 1}, turned(17, ring|api.FN|api.FC, 2)},
		{api.Ins{Op: api.OTst, A: 1, B: 2}, turned(17, ring, 2)},
		{api.Ins{Op: api.ORor, A: 1, B: 2}, turned(17<<27, ring|api.FN|api.FC, 2)},
		{api.Ins{Op: api.OSar, A: 1, B: 2}, turned(0, ring|api.FZ|api.FC, 2)},
		{api.Ins{Op: api.OMulh, A: 1, B: 2}, turned(0, ring|api.FZ, 2)},
		{api.Ins{Op: api.OLdi, A: 1, Imm: -1}, turned(greatest, api.PMask, 6)},
		{api.Ins{Op: api.OLdi, A: 1, Imm: math.MinInt32}, turned(1<<31, api.PMask, 6)},
		{api.Ins{Op: api.OLdi, A: 1, Imm: 0}, turned(0, api.PMask, 6)},
		{api.Ins{Op: api.OAddi, A: 1, Imm: 3}, turned(20, ring, 3)},
		{api.Ins{Op: api.OAddi, A: 1, Imm: -17}, turned(0, ring|api.FZ|api.FC, 3)},
		{api.Ins{Op: api.OAddi, A: 1, Imm: -18}, turned(greatest, ring|api.FN, 3)},
	} {
		does(t, s, c.i, 77, c.want)
	}
}

func TestP8_2EachRuleOverEdges(t *testing.T) {
	for op := api.OMov; op <= api.OAddi; op++ {
		for _, a := range numbers() {
			for _, b := range numbers() {
				s := full(greatest, false)
				s.R[4], s.R[3] = a, b
				hold(t, s, fit(api.Ins{Op: op, A: 4, B: 3, Imm: int32(b)}), 1)
				hold(t, s, fit(api.Ins{Op: op, A: 4, B: 4, Imm: int32(b)}), 1)
			}
		}
	}
}

func TestP8_2Loads(t *testing.T) {
	s := full(64, false)
	for _, c := range []struct {
		op      uint8
		v, want uint32
	}{
		{api.OLd, 0x89abcdef, 0x89abcdef}, {api.OLd, 0, 0}, {api.OLd, greatest, greatest},
		{api.OLdb, 0x89abcdef, 0xef}, {api.OLdb, 0x7f, 0x7f}, {api.OLdb, 0x100, 0},
		{api.OLdh, 0x89abcdef, 0xcdef}, {api.OLdh, 0x7fff, 0x7fff}, {api.OLdh, 0x10000, 0},
		{api.OLdsb, 0x7f, 0x7f}, {api.OLdsb, 0x80, 0xffffff80}, {api.OLdsb, 0xff, greatest},
		{api.OLdsb, 0x1234567f, 0x7f}, {api.OLdsb, 0xff00, 0}, {api.OLdsb, 0x1280, 0xffffff80},
		{api.OLdsh, 0x7fff, 0x7fff}, {api.OLdsh, 0x8000, 0xffff8000}, {api.OLdsh, 0xffff, greatest},
		{api.OLdsh, 0x12347fff, 0x7fff}, {api.OLdsh, 0xffff0000, 0}, {api.OLdsh, 0xff, 0xff}, {api.OLdsh, 0x10008000, 0xffff8000},
	} {
		want := s
		want.R[1], want.PC = c.want, 67
		does(t, s, api.Ins{Op: c.op, A: 1, B: 2}, c.v, want)
		want = s
		want.R[2], want.PC = c.want, 67
		does(t, s, api.Ins{Op: c.op, A: 2, B: 2}, c.v, want)
	}
}

func TestP8_2StoresAndExchange(t *testing.T) {
	s := full(64, true)
	for _, op := range []uint8{api.OSt, api.OStb, api.OSth} {
		want := s
		want.PC = 67
		does(t, s, api.Ins{Op: op, A: 1, B: 2, Imm: 4}, 9, want)
	}
	want := s
	want.R[1], want.PC = 9, 66
	does(t, s, api.Ins{Op: api.OXchg, A: 1, B: 2}, 9, want)
	want = s
	want.R[2], want.PC = 9, 66
	does(t, s, api.Ins{Op: api.OXchg, A: 2, B: 2}, 9, want)
}

func TestP8_2Stack(t *testing.T) {
	s := full(64, false)
	push := func(a uint8, stack uint32) {
		from, want := s, s
		from.R[7], want.R[7], want.PC = stack, stack-4, 66
		does(t, from, api.Ins{Op: api.OPush, A: a}, 9, want)
	}
	push(1, 64)
	push(1, 4)
	push(1, 0)
	push(7, 64)
	push(7, greatest-3)
	pop := func(stack uint32) {
		from, want := s, s
		from.R[7], want.R[7], want.R[1], want.PC = stack, stack+4, 9, 66
		does(t, from, api.Ins{Op: api.OPop, A: 1}, 9, want)
	}
	pop(64)
	pop(0)
	pop(greatest - 3)
	want := s
	want.R[7], want.PC = 9, 66
	does(t, s, api.Ins{Op: api.OPop, A: 7}, 9, want)
}

func TestP8_2JumpsByConditions(t *testing.T) {
	conditions := []func(z, n, c, v bool) bool{
		func(z, n, c, v bool) bool { return true },
		func(z, n, c, v bool) bool { return z },
		func(z, n, c, v bool) bool { return !z },
		func(z, n, c, v bool) bool { return n != v },
		func(z, n, c, v bool) bool { return n == v },
		func(z, n, c, v bool) bool { return c },
		func(z, n, c, v bool) bool { return !c },
		func(z, n, c, v bool) bool { return v },
	}
	ops := []uint8{api.OJmp, api.OBeq, api.OBne, api.OBlt, api.OBge, api.OBlo, api.OBhs, api.OBvs}
	for k, op := range ops {
		for ps := range uint32(512) {
			for _, imm := range []int32{-32768, -104, -103, -3, -1, 0, 1, 10, 32767} {
				for _, pc := range []uint32{0, 100, greatest - 3, greatest - 2, greatest} {
					s := full(5, ps%2 == 0)
					s.PC, s.PS = pc, ps
					want := s
					want.PC = pc + 3
					if conditions[k](ps&16 != 0, ps&32 != 0, ps&64 != 0, ps&128 != 0) {
						want.PC = cut(int64(pc) + 3 + int64(imm))
					}
					does(t, s, api.Ins{Op: op, Imm: imm}, 8, want)
				}
			}
		}
	}
}

func TestP8_2CallsAndReturns(t *testing.T) {
	s := full(5, false)
	s.R[1], s.R[6], s.PC, s.PS = 0x80000001, 300, 100, api.FMask
	turned := func(from api.State, pc, link uint32) api.State {
		from.PC, from.R[6] = pc, link
		return from
	}
	does(t, s, api.Ins{Op: api.OCall, Imm: 10}, 8, turned(s, 113, 103))
	does(t, s, api.Ins{Op: api.OCall, Imm: -104}, 8, turned(s, greatest, 103))
	does(t, s, api.Ins{Op: api.OJr, A: 1}, 8, turned(s, 0x80000001, 300))
	does(t, s, api.Ins{Op: api.OJr, A: 6}, 8, turned(s, 300, 300))
	does(t, s, api.Ins{Op: api.OCallr, A: 1}, 8, turned(s, 0x80000001, 102))
	does(t, s, api.Ins{Op: api.OCallr, A: 6}, 8, turned(s, 300, 102))
	s.PC, s.PS = greatest, 0
	does(t, s, api.Ins{Op: api.OCall}, 8, turned(s, 2, 2))
	does(t, s, api.Ins{Op: api.OCall, Imm: -3}, 8, turned(s, greatest, 2))
	does(t, s, api.Ins{Op: api.OCallr, A: 6}, 8, turned(s, 300, 1))
	does(t, s, api.Ins{Op: api.ONop}, 8, turned(s, 0, 300))
}

func TestP8_2DrawnStatesAndInstructions(t *testing.T) {
	r := rand.New(rand.NewSource(82))
	for range 400000 {
		hold(t, drawState(r), drawIns(r), draw(r))
	}
}

func TestP8_2ManyStepsInARow(t *testing.T) {
	r := rand.New(rand.NewSource(83))
	for range 200 {
		s := drawState(r)
		for range 200 {
			i, v := drawIns(r), draw(r)
			hold(t, s, i, v)
			s, _ = core.Do(s, i, v)
		}
	}
}

// TestP8_2WhatIsReadCountsForNothingElse: v counts only where something is
// read, or exchanged.
func TestP8_2WhatIsReadCountsForNothingElse(t *testing.T) {
	r := rand.New(rand.NewSource(84))
	for range 100000 {
		s, i := drawState(r), drawIns(r)
		if bytesOf(i.Op) > 0 || i.Op == api.OXchg {
			continue
		}
		n, f := core.Do(s, i, draw(r))
		if m, g := core.Do(s, i, draw(r)); n != m || f != g {
			t.Fatalf("Do(%+v, %+v) hangs on v", s, i)
		}
	}
}

func TestP8_3OnlyWhatKindSaysTurns(t *testing.T) {
	r := rand.New(rand.NewSource(85))
	k := kind.New()
	for range 300000 {
		s, i := drawState(r), drawIns(r)
		n, f := core.Do(s, i, draw(r))
		if n.CR != s.CR || n.Halted != s.Halted || n.PS&^api.FMask != s.PS&^api.FMask {
			t.Fatalf("Do(%+v, %+v) = %+v: CR, Halted and PS but for the flags stay", s, i, n)
		}
		for q := range n.R {
			if n.R[q] != s.R[q] && k.Writes(i)>>q&1 == 0 {
				t.Fatalf("Do(%+v, %+v) = %+v: register %d is not written", s, i, n, q)
			}
		}
		if n.PS != s.PS && !k.Turns(i.Op) {
			t.Fatalf("Do(%+v, %+v) = %+v: no flags are turned", s, i, n)
		}
		if f.Cause != 0 && f.Cause != api.Undecodable && !k.Fails(i.Op) {
			t.Fatalf("Do(%+v, %+v): %+v, but it does not fail", s, i, f)
		}
		if f.Cause == api.Undecodable && ofLayer(i) {
			t.Fatalf("Do(%+v, %+v): %+v, but it is one of this layer", s, i, f)
		}
		if _, g := core.Want(s, i); g.Cause != 0 && (!k.Fails(i.Op) || g != f) {
			t.Fatalf("Want(%+v, %+v): %+v, Do: %+v", s, i, g, f)
		}
	}
}

func TestP8_3OnlyRegistersThatAreReadCount(t *testing.T) {
	r := rand.New(rand.NewSource(86))
	k := kind.New()
	for range 300000 {
		s, i, v := drawState(r), drawIns(r), draw(r)
		other := s
		for q := range s.R {
			if k.Reads(i)>>q&1 == 0 {
				other.R[q] = draw(r)
			}
		}
		a, f := core.Want(s, i)
		if b, g := core.Want(other, i); a != b || f != g {
			t.Fatalf("Want(%+v, %+v) hangs on a register that is not read", s, i)
		}
		n, f := core.Do(s, i, v)
		m, g := core.Do(other, i, v)
		for q := range n.R {
			if k.Writes(i)>>q&1 == 0 || f.Cause != 0 {
				n.R[q], m.R[q] = 0, 0 // what was there stays there: only what is written is told
			}
		}
		if n != m || f != g {
			t.Fatalf("Do(%+v, %+v, %d) hangs on a register that is not read", s, i, v)
		}
	}
}

// TestP8_3ClassesAsKindHasThem: this layer's are those of the classes Plain,
// Memory and Control, and Want is for Memory alone.
func TestP8_3ClassesAsKindHasThem(t *testing.T) {
	k := kind.New()
	everyForm(func(i api.Ins) {
		s := full(256, false)
		class := k.Class(i.Op)
		a, wf := core.Want(s, i)
		_, f := core.Do(s, i, 0)
		if is := class == api.Plain || class == api.Memory || class == api.Control; is == (f.Cause == api.Undecodable) {
			t.Fatalf("%+v of class %d: %+v", i, class, f)
		}
		if (a.Size > 0 || wf.Cause != 0) != (class == api.Memory) {
			t.Fatalf("Want of %+v of class %d: %+v, %+v", i, class, a, wf)
		}
	})
}
