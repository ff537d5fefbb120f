package flags

import (
	"math/big"
	"math/rand"
	"testing"

	"mummer/api"
)

const (
	z = api.FZ
	n = api.FN
	c = api.FC
	v = api.FV
)

type binary func(a, b uint32) (uint32, uint32)

type division func(a, b uint32) (uint32, uint32, bool)

type row struct {
	name  string
	call  binary
	a, b  uint32
	want  uint32
	flags uint32
}

func checkRows(t *testing.T, rows []row) {
	t.Helper()
	for _, r := range rows {
		if x, f := r.call(r.a, r.b); x != r.want || f != r.flags {
			t.Errorf("%s(%#x, %#x) = %#x, %d; want %#x, %d", r.name, r.a, r.b, x, f, r.want, r.flags)
		}
	}
}

type divRow struct {
	name  string
	call  division
	a, b  uint32
	want  uint32
	flags uint32
	is    bool
}

func checkDivRows(t *testing.T, rows []divRow) {
	t.Helper()
	for _, r := range rows {
		if x, f, is := r.call(r.a, r.b); x != r.want || f != r.flags || is != r.is {
			t.Errorf("%s(%#x, %#x) = %#x, %d, %v; want %#x, %d, %v", r.name, r.a, r.b, x, f, is, r.want, r.flags, r.is)
		}
	}
}

// edges are the numbers at which a result, a carry or a sign turns.
var edges = []uint32{
	0, 1, 2, 3, 7, 8, 30, 31, 32, 33, 63, 64, 65, 255, 256, 65535, 65536, 65537,
	0x12345678, 0x3fffffff, 0x40000000, 0x55555555, 0x7ffffffe, 0x7fffffff,
	0x80000000, 0x80000001, 0x80000003, 0xaaaaaaaa, 0xc0000000, 0xdeadbeef,
	0xfffeffff, 0xffff0000, 0xfffffffe, 0xffffffff,
}

// forPairs goes through all pairs of edges, and some that are strewn.
func forPairs(f func(a, b uint32)) {
	for _, a := range edges {
		for _, b := range edges {
			f(a, b)
		}
	}
	strewn := rand.New(rand.NewSource(1))
	for range 20000 {
		f(strewn.Uint32(), strewn.Uint32()>>(strewn.Uint32()%32))
	}
}

// The reference: whole numbers without a bound, as the chapter's words say.

func whole(a uint32) *big.Int { return big.NewInt(int64(a)) }

func wholeSigned(a uint32) *big.Int {
	x := whole(a)
	if a >= 1<<31 {
		x.Sub(x, big.NewInt(1<<32))
	}
	return x
}

func basic(x uint32) uint32 {
	f := uint32(0)
	if x == 0 {
		f |= z
	}
	if x >= 1<<31 {
		f |= n
	}
	return f
}

func low32(x *big.Int) uint32 {
	return uint32(new(big.Int).Mod(x, big.NewInt(1<<32)).Uint64())
}

func wantAdd(a, b uint32) (uint32, uint32) {
	sum := new(big.Int).Add(whole(a), whole(b))
	x := low32(sum)
	f := basic(x)
	if sum.Cmp(big.NewInt(1<<32)) >= 0 {
		f |= c
	}
	if new(big.Int).Add(wholeSigned(a), wholeSigned(b)).Cmp(wholeSigned(x)) != 0 {
		f |= v
	}
	return x, f
}

func wantSub(a, b uint32) (uint32, uint32) {
	rest := new(big.Int).Sub(whole(a), whole(b))
	x := low32(rest)
	f := basic(x)
	if rest.Sign() < 0 {
		f |= c
	}
	if new(big.Int).Sub(wholeSigned(a), wholeSigned(b)).Cmp(wholeSigned(x)) != 0 {
		f |= v
	}
	return x, f
}

// bitwise is the reference of And, Or and Xor: truth is the answer's bit for
// as many of the two bits as are set.
func bitwise(truth [3]uint32) binary {
	return func(a, b uint32) (uint32, uint32) {
		x := uint32(0)
		for i := range 32 {
			x |= truth[a>>i&1+b>>i&1] << i
		}
		return x, basic(x)
	}
}

// oneByOne is the reference of the shifts: one place at a time.
func oneByOne(step func(a uint32) (next, out uint32)) binary {
	return func(a, count uint32) (uint32, uint32) {
		out := uint32(0)
		for range count % 32 {
			a, out = step(a)
		}
		f := basic(a)
		if out == 1 {
			f |= c
		}
		return a, f
	}
}

func wantMul(a, b uint32) (uint32, uint32) {
	all := new(big.Int).Mul(whole(a), whole(b))
	x := low32(all)
	f := basic(x)
	if all.Cmp(big.NewInt(1<<32)) >= 0 {
		f |= c
	}
	return x, f
}

func wantMulh(a, b uint32) (uint32, uint32) {
	all := new(big.Int).Mul(whole(a), whole(b))
	x := low32(all.Div(all, big.NewInt(1<<32)))
	return x, basic(x)
}

func checkAgainst(t *testing.T, name string, call, want binary) {
	t.Helper()
	forPairs(func(a, b uint32) {
		x, f := call(a, b)
		if y, g := want(a, b); x != y || f != g {
			t.Fatalf("%s(%#x, %#x) = %#x, %d; want %#x, %d", name, a, b, x, f, y, g)
		}
	})
}

func TestExamples(t *testing.T) {
	checkRows(t, []row{
		{"Add", Add, 0xffffffff, 1, 0, z | c},
		{"Add", Add, 0x7fffffff, 1, 0x80000000, n | v},
		{"Sub", Sub, 1, 2, 0xffffffff, n | c},
		{"Shl", Shl, 3, 31, 0x80000000, n | c},
		{"Shr", Shr, 1, 32, 1, 0},
		{"Mul", Mul, 65536, 65536, 0, z | c},
		{"Sar", Sar, 0x80000003, 1, 0xc0000001, n | c},
		{"Ror", Ror, 1, 1, 0x80000000, n | c},
		{"Mulh", Mulh, 65536, 65536, 1, 0},
	})
	checkDivRows(t, []divRow{
		{"Div", Div, 7, 2, 3, 0, true},
		{"Rem", Rem, 7, 2, 1, 0, true},
		{"Div", Div, 7, 0, 0, 0, false},
	})
}

func TestP1_1Rows(t *testing.T) {
	checkRows(t, []row{
		{"Add", Add, 0, 0, 0, z},
		{"Add", Add, 2, 3, 5, 0},
		{"Add", Add, 0x80000000, 0x80000000, 0, z | c | v},
		{"Add", Add, 0x80000000, 0xffffffff, 0x7fffffff, c | v},
		{"Add", Add, 0xffffffff, 0xffffffff, 0xfffffffe, n | c},
		{"Add", Add, 0xfffffffe, 1, 0xffffffff, n},
		{"Add", Add, 0x7fffffff, 0x80000000, 0xffffffff, n},
		{"Sub", Sub, 5, 5, 0, z},
		{"Sub", Sub, 5, 3, 2, 0},
		{"Sub", Sub, 0, 0x80000000, 0x80000000, n | c | v},
		{"Sub", Sub, 0x80000000, 1, 0x7fffffff, v},
		{"Sub", Sub, 0x7fffffff, 0xffffffff, 0x80000000, n | c | v},
		{"Sub", Sub, 0xffffffff, 0, 0xffffffff, n},
		{"Sub", Sub, 0, 0xffffffff, 1, c},
		{"And", And, 6, 8, 0, z},
		{"And", And, 0xffffffff, 0x80000001, 0x80000001, n},
		{"And", And, 6, 3, 2, 0},
		{"Or", Or, 0, 0, 0, z},
		{"Or", Or, 0x80000000, 1, 0x80000001, n},
		{"Or", Or, 6, 3, 7, 0},
		{"Xor", Xor, 0xffffffff, 0xffffffff, 0, z},
		{"Xor", Xor, 0x80000000, 1, 0x80000001, n},
		{"Xor", Xor, 6, 3, 5, 0},
	})
}

func TestP1_1Reference(t *testing.T) {
	checkAgainst(t, "Add", Add, wantAdd)
	checkAgainst(t, "Sub", Sub, wantSub)
	checkAgainst(t, "And", And, bitwise([3]uint32{0, 0, 1}))
	checkAgainst(t, "Or", Or, bitwise([3]uint32{0, 1, 1}))
	checkAgainst(t, "Xor", Xor, bitwise([3]uint32{0, 1, 0}))
}

func TestP1_2Rows(t *testing.T) {
	checkRows(t, []row{
		{"Shl", Shl, 0xffffffff, 0, 0xffffffff, n},
		{"Shl", Shl, 0, 5, 0, z},
		{"Shl", Shl, 0x80000000, 1, 0, z | c},
		{"Shl", Shl, 0x40000000, 1, 0x80000000, n},
		{"Shl", Shl, 1, 31, 0x80000000, n},
		{"Shl", Shl, 2, 31, 0, z | c},
		{"Shl", Shl, 0xffffffff, 32, 0xffffffff, n},
		{"Shl", Shl, 1, 33, 2, 0},
		{"Shl", Shl, 3, 0xffffffff, 0x80000000, n | c},
		{"Shr", Shr, 0xffffffff, 0, 0xffffffff, n},
		{"Shr", Shr, 0, 32, 0, z},
		{"Shr", Shr, 1, 1, 0, z | c},
		{"Shr", Shr, 0x80000000, 31, 1, 0},
		{"Shr", Shr, 0xc0000000, 31, 1, c},
		{"Shr", Shr, 0x80000000, 0xffffffff, 1, 0},
		{"Shr", Shr, 6, 65, 3, 0},
		{"Sar", Sar, 0x80000000, 0, 0x80000000, n},
		{"Sar", Sar, 0x80000000, 31, 0xffffffff, n},
		{"Sar", Sar, 0xc0000000, 31, 0xffffffff, n | c},
		{"Sar", Sar, 0x7fffffff, 31, 0, z | c},
		{"Sar", Sar, 0x3fffffff, 31, 0, z},
		{"Sar", Sar, 0x80000001, 32, 0x80000001, n},
		{"Sar", Sar, 0xfffffffe, 33, 0xffffffff, n},
		{"Ror", Ror, 1, 0, 1, 0},
		{"Ror", Ror, 0xffffffff, 0, 0xffffffff, n},
		{"Ror", Ror, 2, 1, 1, 0},
		{"Ror", Ror, 0x40000000, 31, 0x80000000, n | c},
		{"Ror", Ror, 0x80000000, 31, 1, 0},
		{"Ror", Ror, 0x80000000, 32, 0x80000000, n},
		{"Ror", Ror, 3, 33, 0x80000001, n | c},
		{"Ror", Ror, 0, 7, 0, z},
	})
}

func TestP1_2Reference(t *testing.T) {
	checkAgainst(t, "Shl", Shl, oneByOne(func(a uint32) (uint32, uint32) { return a * 2, a / (1 << 31) }))
	checkAgainst(t, "Shr", Shr, oneByOne(func(a uint32) (uint32, uint32) { return a / 2, a % 2 }))
	checkAgainst(t, "Sar", Sar, oneByOne(func(a uint32) (uint32, uint32) { return a/2 + a&(1<<31), a % 2 }))
	checkAgainst(t, "Ror", Ror, oneByOne(func(a uint32) (uint32, uint32) { return a/2 + a%2*(1<<31), a % 2 }))
}

func TestP1_2CountsModulo32(t *testing.T) {
	for _, call := range []binary{Shl, Shr, Sar, Ror} {
		for _, a := range edges {
			for count := range uint32(32) {
				x, f := call(a, count)
				for _, more := range []uint32{32, 64, 1 << 16, 1 << 31, 0xffffffe0} {
					if y, g := call(a, count+more); x != y || f != g {
						t.Fatalf("%#x by %d: %#x, %d; by %d: %#x, %d", a, count, x, f, count+more, y, g)
					}
				}
			}
		}
	}
}

func TestP1_3Rows(t *testing.T) {
	checkRows(t, []row{
		{"Mul", Mul, 0, 0xffffffff, 0, z},
		{"Mul", Mul, 6, 7, 42, 0},
		{"Mul", Mul, 65535, 65537, 0xffffffff, n},
		{"Mul", Mul, 0x80000000, 2, 0, z | c},
		{"Mul", Mul, 0x40000000, 2, 0x80000000, n},
		{"Mul", Mul, 0xffffffff, 0xffffffff, 1, c},
		{"Mul", Mul, 0xc0000000, 2, 0x80000000, n | c},
		{"Mulh", Mulh, 65535, 65537, 0, z},
		{"Mulh", Mulh, 0xffffffff, 0xffffffff, 0xfffffffe, n},
		{"Mulh", Mulh, 0x80000000, 2, 1, 0},
		{"Mulh", Mulh, 0, 0, 0, z},
	})
	checkDivRows(t, []divRow{
		{"Div", Div, 0, 1, 0, z, true},
		{"Div", Div, 1, 2, 0, z, true},
		{"Div", Div, 0xffffffff, 1, 0xffffffff, n, true},
		{"Div", Div, 0x80000000, 0xffffffff, 0, z, true},
		{"Div", Div, 0xffffffff, 0xffffffff, 1, 0, true},
		{"Div", Div, 0, 0, 0, 0, false},
		{"Div", Div, 0xffffffff, 0, 0, 0, false},
		{"Rem", Rem, 0, 1, 0, z, true},
		{"Rem", Rem, 8, 2, 0, z, true},
		{"Rem", Rem, 0x80000000, 0xffffffff, 0x80000000, n, true},
		{"Rem", Rem, 0xffffffff, 0x80000000, 0x7fffffff, 0, true},
		{"Rem", Rem, 0, 0, 0, 0, false},
		{"Rem", Rem, 7, 0, 0, 0, false},
		{"Rem", Rem, 0xffffffff, 0, 0, 0, false},
	})
}

func TestP1_3Reference(t *testing.T) {
	checkAgainst(t, "Mul", Mul, wantMul)
	checkAgainst(t, "Mulh", Mulh, wantMulh)
	forPairs(func(a, b uint32) {
		q, qf, qIs := Div(a, b)
		r, rf, rIs := Rem(a, b)
		if b == 0 {
			if q != 0 || qf != 0 || qIs || r != 0 || rf != 0 || rIs {
				t.Fatalf("Div, Rem(%#x, 0) = %d, %d, %v; %d, %d, %v", a, q, qf, qIs, r, rf, rIs)
			}
			return
		}
		quotient, rest := new(big.Int).DivMod(whole(a), whole(b), new(big.Int))
		if q != low32(quotient) || qf != basic(q) || !qIs {
			t.Fatalf("Div(%#x, %#x) = %#x, %d, %v", a, b, q, qf, qIs)
		}
		if r != low32(rest) || rf != basic(r) || !rIs {
			t.Fatalf("Rem(%#x, %#x) = %#x, %d, %v", a, b, r, rf, rIs)
		}
	})
}

// conditionRows has the 16 ways in which the flags can stand, as bits FZ, FN,
// FC, FV from the lowest one on: bit i of a row tells whether it holds in way i.
var conditionRows = [8]uint16{
	0b1111111111111111,
	0b1010101010101010,
	0b0101010101010101,
	0b0011001111001100,
	0b1100110000110011,
	0b1111000011110000,
	0b0000111100001111,
	0b1111111100000000,
}

func TestP1_4(t *testing.T) {
	others := []uint32{0, api.PUser | api.PInt | api.PPage, 8, 0xffffff0f}
	for condition, row := range conditionRows {
		for i := range uint32(16) {
			for _, other := range others {
				ps := i*api.FZ | other
				if Holds(condition, ps) != (row>>i&1 == 1) {
					t.Errorf("Holds(%d, %#x) = %v", condition, ps, Holds(condition, ps))
				}
			}
		}
	}
}

func TestP1_4OtherConditions(t *testing.T) {
	const most = int(^uint(0) >> 1)
	for _, condition := range []int{-most - 1, -256, -8, -7, -1, 8, 9, 15, 16, 64, 255, 256, 257, 1 << 31, most} {
		for i := range uint32(16) {
			if Holds(condition, i*api.FZ) || Holds(condition, i*api.FZ|0xffffff0f) {
				t.Errorf("Holds(%d, ..) of flags %d", condition, i)
			}
		}
	}
}

func TestP1_5Compared(t *testing.T) {
	forPairs(func(a, b uint32) {
		for _, other := range []uint32{b, a} {
			_, f := Sub(a, other)
			is := [3]bool{a == other, int32(a) < int32(other), a < other}
			for i, holds := range is {
				if Holds(2*i+1, f) != holds || Holds(2*i+2, f) == holds {
					t.Fatalf("Sub(%#x, %#x) leaves %d: condition %d or %d", a, other, f, 2*i+1, 2*i+2)
				}
			}
		}
	})
}

func TestP1_5Divided(t *testing.T) {
	forPairs(func(a, b uint32) {
		if b == 0 {
			return
		}
		q, _, _ := Div(a, b)
		r, _, _ := Rem(a, b)
		if uint64(q)*uint64(b)+uint64(r) != uint64(a) || r >= b {
			t.Fatalf("%#x by %#x: %#x, rest %#x", a, b, q, r)
		}
	})
}

func TestP1_5TurnedRound(t *testing.T) {
	for _, a := range edges {
		for count := range uint32(70) {
			x, _ := Ror(a, count)
			if y, _ := Ror(x, 32-count); y != a {
				t.Errorf("Ror(%#x) by %d and %d is %#x", a, count, 32-count, y)
			}
		}
	}
}
