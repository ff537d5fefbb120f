package translate_test

import (
	"bytes"
	"math"
	"math/rand"
	"slices"
	"sync"
	"testing"

	"mummer/api"
	"mummer/isa"
	"mummer/kind"
	"mummer/translate"
)

var (
	nop  = api.Ins{Op: api.ONop}
	add  = api.Ins{Op: api.OAdd, A: 1, B: 2}
	div  = api.Ins{Op: api.ODiv, A: 1, B: 2}
	ldi  = api.Ins{Op: api.OLdi, A: 7, Imm: 1}
	pop  = api.Ins{Op: api.OPop, A: 3}
	jmp  = api.Ins{Op: api.OJmp, Imm: -300}
	call = api.Ins{Op: api.OCall, Imm: 4}
	beq  = api.Ins{Op: api.OBeq, Imm: 4}
	hlt  = api.Ins{Op: api.OHlt}
	trap = api.Ins{Op: api.OTrap, Imm: 255}
)

func TestExamples(t *testing.T) {
	b := api.Block{Ins: []api.Ins{div, beq}, At: []uint32{8, 10}, Next: 13, To: 17, End: api.EndBranch}
	comes(t, b, 6, "\x19\x12\x41\x05\x00\x70\x02\x71\x06\x00\x70\x02\x71\x07\x00",
		api.Row{Off: 0, PC: 8, Done: 0, Exit: -1},
		api.Row{Off: 2, PC: 10, Done: 1, Exit: -1},
		api.Row{Off: 5, PC: 13, Done: 2, Exit: -1},
		api.Row{Off: 7, PC: 13, Done: 0, Exit: 6},
		api.Row{Off: 10, PC: 17, Done: 2, Exit: -1},
		api.Row{Off: 12, PC: 17, Done: 0, Exit: 7})
}

// TestP20_1HowMany: a block has 1 to 32 instructions.
func TestP20_1HowMany(t *testing.T) {
	mayNot(t, api.Block{})
	for n := range 70 {
		for _, last := range []api.Ins{nop, jmp, call, beq, hlt} {
			b := block(100, append(nops(n), last)...)
			if n+1 > 32 {
				mayNot(t, b)
				continue
			}
			c := made(t, b, 9)
			if want := map[int]byte{1: byte(n + 1), 2: byte(n + 1), 3: byte(n + 1), 4: byte(n)}[b.End]; !bytes.Contains(c.Bytes, []byte{0x70, want, 0x71, 9, 0}) {
				t.Errorf("%d instructions, the last one %+v: % x", n+1, last, c.Bytes)
			}
		}
	}
	for _, end := range []int{-1, 0, 1, 2, 3, 4, 5} {
		mayNot(t, api.Block{End: end})
		mayNot(t, api.Block{Ins: []api.Ins{}, At: []uint32{}, End: end})
		mayNot(t, api.Block{At: []uint32{1}, End: end})
	}
	mayNot(t, block(0, nops(300)...))
	mayNot(t, block(0, nops(256)...))
	mayNot(t, block(0, nops(257)...))
}

// TestP20_1Places: a block has as many places as instructions.
func TestP20_1Places(t *testing.T) {
	for _, n := range []int{1, 2, 3, 31, 32} {
		for _, last := range []api.Ins{nop, jmp, call, beq, hlt} {
			b := block(0, append(nops(n-1), last)...)
			made(t, b, 0)
			short, long, empty := copied(b), copied(b), copied(b)
			short.At = short.At[:n-1]
			long.At = append(long.At, long.Next)
			empty.At = nil
			mayNot(t, short)
			mayNot(t, long)
			mayNot(t, empty)
		}
	}
	short := block(0, nops(33)...)
	short.At = short.At[:32]
	mayNot(t, short)
	long := block(0, nops(32)...)
	long.At = append(long.At, 32)
	mayNot(t, long)
}

// TestP20_1AnyPlaces: where instructions stand, and the other fields, may be
// anything.
func TestP20_1AnyPlaces(t *testing.T) {
	numbers := []uint32{0, 1, 5, 16383, 16384, 1<<31 - 1, 1 << 31, 1<<32 - 1}
	for _, last := range []api.Ins{nop, jmp, call, beq, hlt} {
		for _, a := range numbers {
			for _, z := range numbers {
				b := api.Block{Ins: []api.Ins{add, last}, At: []uint32{a, z}, Next: z, To: a, End: ending(last.Op)}
				made(t, b, 7)
				b.Next, b.To = a, z
				made(t, b, 7)
				b.Frames, b.Tables = []int{9, -1, 9}, []int{math.MaxInt, math.MinInt}
				made(t, b, 7)
			}
		}
	}
}

// wrong is instructions that may not be: no operations, a host's own, and those
// with fields that their forms have not, or not so great.
func wrong() []api.Ins {
	l := []api.Ins{
		{Op: 0x04}, {Op: 0x0f}, {Op: 0x22}, {Op: 0x2f}, {Op: 0x3b}, {Op: 0x3f}, {Op: 0x4b}, {Op: 0x51}, {Op: 0x66}, {Op: 0x72}, {Op: 0xff},
		{Op: api.OTally}, {Op: api.OTally, Imm: 1}, {Op: api.OLeave}, {Op: api.OLeave, Imm: 65535},
		{Op: api.OLdi, B: 1}, {Op: api.OLdi, A: 8}, {Op: api.OLdi, A: 255},
		{Op: api.OAddi, Imm: 128}, {Op: api.OAddi, Imm: -129}, {Op: api.OAddi, B: 1},
		{Op: api.OLd, Imm: 128}, {Op: api.OLd, Imm: -129}, {Op: api.OLdsh, B: 8},
		{Op: api.OJmp, Imm: 32768}, {Op: api.OJmp, Imm: -32769}, {Op: api.OBeq, Imm: 32768}, {Op: api.OBvs, Imm: -32769}, {Op: api.OBlt, A: 1}, {Op: api.OCall, B: 1}, {Op: api.OCall, Imm: 1 << 20},
		{Op: api.OTrap, Imm: 256}, {Op: api.OTrap, Imm: -1}, {Op: api.OTrap, A: 1},
	}
	for op := range 256 {
		s, is := shapeOf(byte(op))
		if !is {
			l = append(l, api.Ins{Op: byte(op)})
			continue
		}
		i := api.Ins{Op: byte(op)}
		a, b, over, below := i, i, i, i
		a.A, b.B = 8, 8
		l = append(l, a, b)
		if s.registers == 0 {
			a.A = 1
			l = append(l, a)
		}
		if s.registers < 2 {
			b.B = 1
			l = append(l, b)
		}
		if s.number < 4 {
			over.Imm, below.Imm = int32(s.high+1), int32(s.low-1)
			l = append(l, over, below)
		}
	}
	return l
}

// TestP20_1EachMayBe: a block none of whose instructions may not be, wherever.
func TestP20_1EachMayBe(t *testing.T) {
	for _, i := range wrong() {
		for _, n := range []int{1, 2, 3, 32} {
			for _, k := range []int{0, n / 2, n - 1} {
				for _, last := range []api.Ins{nop, jmp, call, beq, hlt} {
					b := block(64, append(nops(n-1), last)...)
					made(t, b, 3)
					b.Ins[k] = i
					mayNot(t, b)
					if b.End = ending(i.Op); n == 2 {
						mayNot(t, b)
					}
				}
			}
		}
	}
}

// TestP20_1AllThatMayBe: every operation of a guest's, at the edges of its
// fields, has its own bytes as a block's first one, where it ends none.
func TestP20_1AllThatMayBe(t *testing.T) {
	for op := range 256 {
		s, is := shapeOf(byte(op))
		if !is {
			continue
		}
		for _, a := range []uint8{0, 7} {
			for _, bb := range []uint8{0, 7} {
				for _, imm := range []int64{s.low, s.high, 0} {
					i := api.Ins{Op: byte(op), A: a, B: bb, Imm: int32(imm)}
					if !paperIns(i) {
						continue
					}
					made(t, block(30, i), 5)
					made(t, block(30, add, ldi, i), 5)
					b := block(30, i, nop)
					if ending(i.Op) != 1 {
						mayNot(t, b)
						continue
					}
					piece, _ := isa.Encode(i, false)
					if c := made(t, b, 5); !bytes.HasPrefix(c.Bytes, piece) {
						t.Errorf("%+v: % x", i, c.Bytes)
					}
				}
			}
		}
	}
}

// TestP20_1EndsInTheMiddle: only the last instruction may end a block.
func TestP20_1EndsInTheMiddle(t *testing.T) {
	for _, op := range slices.Concat(guests(2), guests(3), guests(4)) {
		for _, n := range []int{2, 3, 32} {
			for k := range n - 1 {
				for _, last := range []api.Ins{nop, jmp, call, beq, hlt} {
					b := block(64, append(nops(n-1), last)...)
					b.Ins[k] = api.Ins{Op: op}
					mayNot(t, b)
					b.End = ending(op)
					mayNot(t, b)
				}
			}
		}
	}
}

// TestP20_1TheEnd: the last instruction is of the block's End.
func TestP20_1TheEnd(t *testing.T) {
	ends := []int{-1, 0, 1, 2, 3, 4, 5, 6, 8, 255, 256, 257, 258, 259, 260, 1<<32 + 1, 1<<32 + 4, math.MaxInt, math.MinInt, math.MinInt + 1}
	for op := range 256 {
		for _, n := range []int{1, 2, 32} {
			b := block(12, append(nops(n-1), api.Ins{Op: byte(op)})...)
			_, is := shapeOf(byte(op))
			for _, end := range ends {
				b.End = end
				if got := asked(t, b, 2); got != (is && end == ending(byte(op))) {
					t.Errorf("the operation %#x, the End %d: %t", op, end, got)
				}
			}
		}
	}
}

// TestP20_1First: the first exit is from 0 to 65534.
func TestP20_1First(t *testing.T) {
	outer := []int{-1, -2, -65534, -65536, 65535, 65536, 65537, 65542, 131070, 1 << 20, 1<<31 - 1, 1 << 31, 1<<32 + 6, 1 << 32, -1 << 32, math.MaxInt, math.MinInt, math.MinInt + 6}
	for _, last := range []api.Ins{nop, jmp, call, beq, hlt} {
		b := block(8, div, last)
		for _, first := range outer {
			none(t, b, first)
		}
		if !translate.May(b) {
			t.Fatalf("%+v may be all the same", b)
		}
		for first := 0; first <= 65534; first += 17 {
			made(t, b, first)
		}
		for _, first := range []int{0, 1, 254, 255, 256, 257, 32767, 32768, 65533, 65534} {
			c := made(t, b, first)
			var exits []int
			for _, r := range c.Rows {
				if r.Exit != -1 {
					exits = append(exits, r.Exit)
				}
			}
			want := []int{first}
			if b.End == api.EndBranch {
				want = append(want, first+1)
			}
			if !slices.Equal(exits, want) {
				t.Errorf("%+v, %d: the exits are %v", b, first, exits)
			}
		}
	}
	comes(t, block(8, api.Ins{Op: api.OBvs}), 65534, "\x47\x05\x00\x70\x01\x71\xfe\xff\x70\x01\x71\xff\xff",
		api.Row{Off: 0, PC: 8, Done: 0, Exit: -1},
		api.Row{Off: 3, PC: 11, Done: 1, Exit: -1}, api.Row{Off: 5, PC: 11, Done: 0, Exit: 65534},
		api.Row{Off: 8, PC: 0xfedcba98, Done: 1, Exit: -1}, api.Row{Off: 10, PC: 0xfedcba98, Done: 0, Exit: 65535})
}

// TestP20_1OneInstruction: each End, of one instruction alone.
func TestP20_1OneInstruction(t *testing.T) {
	comes(t, api.Block{Ins: []api.Ins{add}, At: []uint32{40}, Next: 42, To: 99, End: api.EndNext}, 258, "\x11\x12\x70\x01\x71\x02\x01",
		api.Row{Off: 0, PC: 40, Done: 0, Exit: -1}, api.Row{Off: 2, PC: 42, Done: 1, Exit: -1}, api.Row{Off: 4, PC: 42, Done: 0, Exit: 258})
	comes(t, api.Block{Ins: []api.Ins{jmp}, At: []uint32{400}, Next: 403, To: 103, End: api.EndJump}, 0, "\x70\x01\x71\x00\x00",
		api.Row{Off: 0, PC: 103, Done: 1, Exit: -1}, api.Row{Off: 2, PC: 103, Done: 0, Exit: 0})
	comes(t, api.Block{Ins: []api.Ins{call}, At: []uint32{8}, Next: 11, To: 15, End: api.EndJump}, 0, "\x20\x60\x0b\x00\x00\x00\x70\x01\x71\x00\x00",
		api.Row{Off: 0, PC: 8, Done: 0, Exit: -1}, api.Row{Off: 6, PC: 15, Done: 1, Exit: -1}, api.Row{Off: 8, PC: 15, Done: 0, Exit: 0})
	comes(t, api.Block{Ins: []api.Ins{{Op: api.OBlo, Imm: -9}}, At: []uint32{8}, Next: 11, To: 2, End: api.EndBranch}, 1, "\x45\x05\x00\x70\x01\x71\x01\x00\x70\x01\x71\x02\x00",
		api.Row{Off: 0, PC: 8, Done: 0, Exit: -1},
		api.Row{Off: 3, PC: 11, Done: 1, Exit: -1}, api.Row{Off: 5, PC: 11, Done: 0, Exit: 1},
		api.Row{Off: 8, PC: 2, Done: 1, Exit: -1}, api.Row{Off: 10, PC: 2, Done: 0, Exit: 2})
	comes(t, api.Block{Ins: []api.Ins{trap}, At: []uint32{8}, Next: 10, To: 77, End: api.EndAsk}, 1, "\x70\x00\x71\x01\x00",
		api.Row{Off: 0, PC: 8, Done: 0, Exit: -1}, api.Row{Off: 2, PC: 8, Done: 0, Exit: 1})
	for _, end := range []int{1, 2, 3, 4} {
		for _, op := range guests(end) {
			made(t, block(8, api.Ins{Op: op}), 3)
		}
	}
}

// TestP20_1SeveralInstructions: each End behind others.
func TestP20_1SeveralInstructions(t *testing.T) {
	ahead := []api.Row{{Off: 0, PC: 8, Done: 0, Exit: -1}, {Off: 2, PC: 10, Done: 1, Exit: -1}}
	comes(t, block(8, add, pop, ldi), 2, "\x11\x12\x39\x30\x20\x70\x01\x00\x00\x00\x70\x03\x71\x02\x00", append(slices.Clone(ahead),
		api.Row{Off: 4, PC: 12, Done: 2, Exit: -1}, api.Row{Off: 10, PC: 18, Done: 3, Exit: -1}, api.Row{Off: 12, PC: 18, Done: 0, Exit: 2})...)
	comes(t, block(8, add, pop, jmp), 2, "\x11\x12\x39\x30\x70\x03\x71\x02\x00", append(slices.Clone(ahead),
		api.Row{Off: 4, PC: 0xfedcba98, Done: 3, Exit: -1}, api.Row{Off: 6, PC: 0xfedcba98, Done: 0, Exit: 2})...)
	comes(t, block(8, add, pop, call), 2, "\x11\x12\x39\x30\x20\x60\x0f\x00\x00\x00\x70\x03\x71\x02\x00", append(slices.Clone(ahead),
		api.Row{Off: 4, PC: 12, Done: 2, Exit: -1}, api.Row{Off: 10, PC: 0xfedcba98, Done: 3, Exit: -1}, api.Row{Off: 12, PC: 0xfedcba98, Done: 0, Exit: 2})...)
	comes(t, block(8, add, pop, beq), 2, "\x11\x12\x39\x30\x41\x05\x00\x70\x03\x71\x02\x00\x70\x03\x71\x03\x00", append(slices.Clone(ahead),
		api.Row{Off: 4, PC: 12, Done: 2, Exit: -1},
		api.Row{Off: 7, PC: 15, Done: 3, Exit: -1}, api.Row{Off: 9, PC: 15, Done: 0, Exit: 2},
		api.Row{Off: 12, PC: 0xfedcba98, Done: 3, Exit: -1}, api.Row{Off: 14, PC: 0xfedcba98, Done: 0, Exit: 3})...)
	comes(t, block(8, add, pop, hlt), 2, "\x11\x12\x39\x30\x70\x02\x71\x02\x00", append(slices.Clone(ahead),
		api.Row{Off: 4, PC: 12, Done: 2, Exit: -1}, api.Row{Off: 6, PC: 12, Done: 0, Exit: 2})...)
}

// TestP20_1Calls leave Next, as a number with its sign.
func TestP20_1Calls(t *testing.T) {
	for next, text := range map[uint32]string{
		0:          "\x20\x60\x00\x00\x00\x00",
		1:          "\x20\x60\x01\x00\x00\x00",
		0x01020304: "\x20\x60\x04\x03\x02\x01",
		2147483647: "\x20\x60\xff\xff\xff\x7f",
		2147483648: "\x20\x60\x00\x00\x00\x80",
		4294967295: "\x20\x60\xff\xff\xff\xff",
	} {
		for n := range 4 {
			b := block(40, append(nops(n), call)...)
			b.Next = next
			if c := made(t, b, 4); string(c.Bytes[n:n+6]) != text {
				t.Errorf("Next %d: % x", next, c.Bytes)
			}
			i, _, e := isa.Decode(made(t, b, 4).Bytes[n:], true)
			if e != api.OK || i != (api.Ins{Op: api.OLdi, A: 6, Imm: int32(next)}) {
				t.Errorf("Next %d: %+v", next, i)
			}
		}
	}
}

// TestP20_1WhereItLeads is told by Next, To and the last place alone, whatever
// the last instruction's Imm.
func TestP20_1WhereItLeads(t *testing.T) {
	x := rand.New(rand.NewSource(20))
	for _, imm := range []int32{-32768, -5, -1, 0, 1, 5, 32767} {
		for _, op := range slices.Concat(guests(2), guests(3)) {
			b := api.Block{Ins: []api.Ins{nop, {Op: op, Imm: imm}}, At: []uint32{x.Uint32(), x.Uint32()}, Next: x.Uint32(), To: x.Uint32(), End: ending(op)}
			c := made(t, b, 11)
			b.Ins[1].Imm = 0
			if zero := made(t, b, 11); !bytes.Equal(zero.Bytes, c.Bytes) || !slices.Equal(zero.Rows, c.Rows) {
				t.Errorf("%+v: % x %v, with Imm %d % x %v", b, zero.Bytes, zero.Rows, imm, c.Bytes, c.Rows)
			}
		}
	}
}

// TestP20_1Drawn holds drawn blocks, some of which may not be, against the
// test's own reading.
func TestP20_1Drawn(t *testing.T) {
	x := rand.New(rand.NewSource(201))
	strange := wrong()
	were := [2]int{}
	for range 20000 {
		b := drawBlock(x)
		k := x.Intn(len(b.Ins))
		switch x.Intn(12) {
		case 0:
			b.End = x.Intn(7) - 1
		case 1:
			b.Ins[k] = strange[x.Intn(len(strange))]
		case 2:
			b.Ins[k] = drawIns(x, guests(1+x.Intn(4)))
		case 3:
			b.Ins[k] = api.Ins{Op: uint8(x.Intn(256)), A: uint8(x.Intn(9)), B: uint8(x.Intn(9)), Imm: int32(x.Uint32())}
		case 4:
			b.At = b.At[:k]
		case 5:
			b.Ins, b.At = slices.Concat(b.Ins, b.Ins), slices.Concat(b.At, b.At)
		}
		if asked(t, b, x.Intn(65535)) {
			were[1]++
		} else {
			were[0]++
		}
	}
	if were[0] < 2000 || were[1] < 10000 {
		t.Errorf("%d blocks might not be, %d might", were[0], were[1])
	}
}

// TestP20_1BlocksStay (R3): a block that is handed in stays as it is, what lies
// behind its lists included.
func TestP20_1BlocksStay(t *testing.T) {
	x := rand.New(rand.NewSource(202))
	for range 2000 {
		b := drawBlock(x)
		n := len(b.Ins)
		ins, at := slices.Grow(b.Ins, 8), slices.Grow(b.At, 8)
		ins, at = ins[:cap(ins)], at[:cap(at)]
		for k := n; k < len(ins); k++ {
			ins[k] = drawIns(x, guests(1))
		}
		for k := n; k < len(at); k++ {
			at[k] = x.Uint32()
		}
		b.Ins, b.At = ins[:n], at[:n]
		wasIns, wasAt, was := slices.Clone(ins), slices.Clone(at), copied(b)
		made(t, b, 1)
		if !slices.Equal(ins, wasIns) || !slices.Equal(at, wasAt) || !slices.Equal(b.Frames, was.Frames) || !slices.Equal(b.Tables, was.Tables) {
			t.Fatalf("%+v was %+v", b, was)
		}
	}
}

// TestP20_1CodeIsTheCallersOwn (R3, R4): what is done to code, and to its block
// behind the call, turns no other answer.
func TestP20_1CodeIsTheCallersOwn(t *testing.T) {
	x := rand.New(rand.NewSource(203))
	for range 500 {
		b := drawBlock(x)
		first, second := made(t, b, 6), made(t, b, 6)
		want := paperCode(b, 6)
		for _, c := range []api.Code{first, second} {
			for k := range c.Bytes[:cap(c.Bytes)] {
				c.Bytes[:cap(c.Bytes)][k] = 0xee
			}
			for k := range c.Rows[:cap(c.Rows)] {
				c.Rows[:cap(c.Rows)][k] = api.Row{Off: -9}
			}
			made(t, b, 6)
		}
		third := made(t, b, 6)
		for k := range b.Ins {
			b.Ins[k], b.At[k] = ldi, 1234
		}
		if !bytes.Equal(third.Bytes, want.Bytes) || !slices.Equal(third.Rows, want.Rows) {
			t.Fatalf("% x %v, want % x %v", third.Bytes, third.Rows, want.Bytes, want.Rows)
		}
	}
}

// TestP20_1AtOneTime (R4): calls that are made at one time have nothing in
// common.
func TestP20_1AtOneTime(t *testing.T) {
	x := rand.New(rand.NewSource(204))
	blocks, codes := make([]api.Block, 64), make([]api.Code, 64)
	for k := range blocks {
		blocks[k] = drawBlock(x)
	}
	var group sync.WaitGroup
	for k, b := range blocks {
		group.Go(func() { codes[k], _ = translate.Translate(b, k) })
	}
	group.Wait()
	for k, b := range blocks {
		if want := made(t, b, k); !bytes.Equal(codes[k].Bytes, want.Bytes) || !slices.Equal(codes[k].Rows, want.Rows) {
			t.Errorf("%+v: % x, want % x", b, codes[k].Bytes, want.Bytes)
		}
	}
}

// TestP20_1AsTheLayersBelow: which blocks may be is what packages isa and kind
// say.
func TestP20_1AsTheLayersBelow(t *testing.T) {
	known := kind.New()
	for op := range 256 {
		i := api.Ins{Op: byte(op)}
		if want := isa.May(i, false) && !known.Ends(i.Op); translate.May(block(0, i, nop)) != want {
			t.Errorf("%#x ahead of another: %t", op, !want)
		}
		if want := isa.May(i, false); translate.May(block(0, nop, i)) != want {
			t.Errorf("%#x behind another: %t", op, !want)
		}
	}
}
