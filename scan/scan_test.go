package scan_test

import (
	"math"
	"slices"
	"testing"

	"mummer/api"
	"mummer/ram"
	"mummer/scan"
)

var (
	nop = api.Ins{Op: api.ONop}                        // one byte
	mov = api.Ins{Op: api.OMov, A: 1, B: 2}            // two
	ld  = api.Ins{Op: api.OLd, A: 3, B: 4, Imm: -4}    // three
	ldi = api.Ins{Op: api.OLdi, A: 5, Imm: 0x01020304} // six
	jmp = api.Ins{Op: api.OJmp, Imm: 7}                // three
	jr  = api.Ins{Op: api.OJr, A: 6}                   // two
)

// TestP18_1Examples are the chapter's.
func TestP18_1Examples(t *testing.T) {
	r := memory(t, 1)
	fill(t, r, 0, 0x11, 0x12, 0x20, 0x30, 7, 0, 0, 0, 0x41, 0xfb, 0xff)
	three := []api.Ins{{Op: api.OAdd, A: 1, B: 2}, {Op: api.OLdi, A: 3, Imm: 7}, {Op: api.OBeq, Imm: -5}}
	comes(t, r, at(0, 0), 9, api.Block{Ins: three, At: []uint32{0, 2, 8}, Next: 11, To: 6, End: api.EndBranch, Frames: []int{0}})
	comes(t, r, at(0, 0), 1, api.Block{Ins: three[:1], At: []uint32{0}, Next: 2, End: api.EndNext, Frames: []int{0}})
	fails(t, r, at(64, 0), api.NoFetch, 64)
	fill(t, r, 0, 0, 4)
	comes(t, r, at(0, 0), 9, api.Block{Ins: []api.Ins{nop}, At: []uint32{0}, Next: 1, End: api.EndNext, Frames: []int{0}})
	fails(t, r, at(1, 0), api.Undecodable, 1)
}

func TestP18_1Most(t *testing.T) {
	r := memory(t, 2) // all of it is nop
	for _, c := range []struct{ most, n int }{
		{math.MinInt, 1}, {math.MinInt32, 1}, {-32, 1}, {-1, 1}, {0, 1}, {1, 1}, {2, 2}, {3, 3}, {30, 30}, {31, 31}, {32, 32},
		{33, 32}, {34, 32}, {64, 32}, {1 << 32, 32}, {1<<32 + 1, 32}, {math.MaxInt32, 32}, {math.MaxInt, 32},
	} {
		for _, pc := range []uint32{0, 5, 63, 96} {
			b, f := scans(t, r, at(pc, 0), c.most)
			if f.Cause != 0 || len(b.Ins) != c.n || len(b.At) != c.n || b.Next != pc+uint32(c.n) || b.End != api.EndNext || b.To != 0 {
				t.Errorf("at %d, most %d: %v, %v", pc, c.most, b, f)
			}
		}
	}
}

// TestP18_1MostAndAnEnd: an instruction that ends a block does so also as the
// last one that there may be.
func TestP18_1MostAndAnEnd(t *testing.T) {
	for _, c := range []struct {
		last api.Ins
		end  int
		to   uint32
	}{{jmp, api.EndJump, 41}, {api.Ins{Op: api.OBvs, Imm: -34}, api.EndBranch, 0}, {jr, api.EndAsk, 0}} {
		r := memory(t, 1)
		fill(t, r, 31, code(t, c.last)...)
		b, _ := scans(t, r, at(0, 0), 32)
		if len(b.Ins) != 32 || b.Ins[31] != c.last || b.End != c.end || b.To != c.to {
			t.Errorf("%+v as the last one: %v", c.last, b)
		}
		// One more ahead of it, and it is none of the block's.
		b, _ = scans(t, r, at(0, 0), 31)
		if len(b.Ins) != 31 || b.End != api.EndNext || b.Next != 31 || b.To != 0 {
			t.Errorf("%+v behind the last one: %v", c.last, b)
		}
		fill(t, r, 31, code(t, nop, c.last)...)
		b, _ = scans(t, r, at(0, 0), 99)
		if len(b.Ins) != 32 || b.End != api.EndNext || b.Next != 32 || b.To != 0 {
			t.Errorf("%+v behind MaxBlock: %v", c.last, b)
		}
	}
}

func TestP18_1InsAndAt(t *testing.T) {
	list := []api.Ins{nop, mov, ld, ldi, nop, {Op: api.OAddi, A: 7, Imm: -128}, {Op: api.OPush, A: 3}, {Op: api.OXchg, A: 1, B: 0}, {Op: api.OLdi, Imm: math.MinInt32}, {Op: api.OSth, A: 2, B: 7, Imm: 127}, jmp}
	places := []uint32{0, 1, 3, 6, 12, 13, 16, 18, 20, 26, 29}
	for _, pc := range []uint32{0, 1, 20, 31, 50, 63, 64, 96} {
		r := memory(t, 2)
		fill(t, r, pc, code(t, list...)...)
		want := api.Block{Ins: list, End: api.EndJump, Next: pc + 32, To: pc + 39, Frames: []int{0, 1}}
		for _, place := range places {
			want.At = append(want.At, pc+place)
		}
		if pc <= 32 {
			want.Frames = []int{0}
		}
		if pc >= 64 {
			want.Frames = []int{1}
		}
		comes(t, r, at(pc, 0), 32, want)
		// Whatever stands behind the end is none of the block's.
		if pc < 96 {
			fill(t, r, pc+32, 0x11, 0x12)
			comes(t, r, at(pc, 0), 32, want)
		}
	}
}

// ends are the Ends of the operations that end a block.
var ends = map[uint8]int{
	api.OJmp: api.EndJump, api.OCall: api.EndJump,
	api.OBeq: api.EndBranch, api.OBne: api.EndBranch, api.OBlt: api.EndBranch, api.OBge: api.EndBranch, api.OBlo: api.EndBranch, api.OBhs: api.EndBranch, api.OBvs: api.EndBranch,
	api.OJr: api.EndAsk, api.OCallr: api.EndAsk, api.OTrap: api.EndAsk, api.OHlt: api.EndAsk, api.OIret: api.EndAsk, api.OFlush: api.EndAsk, api.ORdps: api.EndAsk,
	api.OWrps: api.EndAsk, api.ORdcr: api.EndAsk, api.OWrcr: api.EndAsk, api.OIn: api.EndAsk, api.OOut: api.EndAsk,
}

// TestP18_1EachOperation as the first one, behind another, and as the last one
// that may be.
func TestP18_1EachOperation(t *testing.T) {
	for op := range 256 {
		size := uint32(length(byte(op)))
		for _, ahead := range []uint32{0, 2} {
			r := memory(t, 1)
			fill(t, r, 0, 0x10, 0x12, 0x10, 0x12)
			fill(t, r, ahead, byte(op), 0, 0, 0, 0, 0, 0x10, 0x12, 4)
			if size > 0 {
				fill(t, r, ahead+size, 0x10, 0x12, 4)
			}
			b, f := scans(t, r, at(0, 0), 9)
			if size == 0 && ahead == 0 {
				if f != (api.Fault{Cause: api.Undecodable}) {
					t.Errorf("%#x: %+v", op, f)
				}
				continue
			}
			end, is := ends[uint8(op)]
			n, next, to := int(ahead)/2+2, ahead+size+2, uint32(0)
			switch {
			case size == 0:
				n, next, end = 1, 2, api.EndNext
			case is:
				n, next = n-1, next-2
			default:
				end = api.EndNext
			}
			if end == api.EndJump || end == api.EndBranch {
				to = next
			}
			if f.Cause != 0 || len(b.Ins) != n || b.Next != next || b.End != end || b.To != to {
				t.Errorf("%#x behind %d: %v, %+v", op, ahead, b, f)
			}
		}
	}
}

// TestP18_1EachSecondByte: what is refused when it is decoded ends a block, or
// is a fault.
func TestP18_1EachSecondByte(t *testing.T) {
	r := memory(t, 1)
	for op := range 256 {
		if length(byte(op)) < 2 {
			continue
		}
		for second := range 256 {
			fill(t, r, 9, 0, byte(op), byte(second), 9, 0xff, 1, 0x80)
			scans(t, r, at(9, 0), 2)
			scans(t, r, at(10, 0), 2)
		}
	}
}

func TestP18_1To(t *testing.T) {
	for _, op := range []uint8{api.OJmp, api.OCall, api.OBeq, api.OBlt, api.OBvs} {
		for _, c := range []struct {
			pc  uint32
			imm int32
			to  uint32
		}{
			{0, 0, 3}, {0, -3, 0}, {0, 1, 4}, {61, 0, 64}, {20, 32767, 32790}, {100, -50, 53},
			// Sums of 32 bits, below 0.
			{0, -4, 0xffffffff}, {0, -32768, 0xffff8003}, {2, -6, 0xffffffff}, {61, -65, 0xffffffff}, {61, -64, 0}, {61, -32768, 0xffff8040},
		} {
			r := memory(t, 2)
			fill(t, r, c.pc, code(t, api.Ins{Op: op, Imm: c.imm})...)
			b, _ := scans(t, r, at(c.pc, 0), 3)
			if b.To != c.to || b.Next != c.pc+3 {
				t.Errorf("%#x %d at %d: %v", op, c.imm, c.pc, b)
			}
		}
	}
	// None of an EndAsk, and none of an EndNext, whatever their Imm.
	for _, i := range []api.Ins{{Op: api.OTrap, Imm: 200}, {Op: api.OLdi, Imm: 9}, {Op: api.OAddi, Imm: 9}} {
		r := memory(t, 1)
		fill(t, r, 0, code(t, i)...)
		if b, _ := scans(t, r, at(0, 0), 1); b.To != 0 || len(b.Ins) != 1 {
			t.Errorf("%+v: %v", i, b)
		}
	}
}

// TestP18_1Top: the highest addresses lead nowhere, be they fetched one by one
// over the end of all numbers.
func TestP18_1Top(t *testing.T) {
	for _, r := range []*ram.RAM{memory(t, 1), memory(t, api.MaxHost), paged(t)} {
		for _, pc := range []uint32{0xffffffff, 0xfffffffe, 0xfffffffb, 0xffffffc0, 0xffffff80, 0x80000000, 0x7fffffff, 1 << 16, 32768} {
			for _, ps := range []uint32{0, api.PPage, api.PPage | api.PUser} {
				fails(t, r, at(pc, ps), api.NoFetch, pc)
			}
		}
	}
}

func TestP18_1FirstFaultWithoutPaging(t *testing.T) {
	r := memory(t, 2)
	for _, c := range []struct {
		bytes []byte
		cause int
		addr  uint32 // as many behind the first byte
	}{
		{[]byte{0x04}, api.Undecodable, 0},
		{[]byte{0xff}, api.Undecodable, 0},
		{[]byte{0x70, 1}, api.Undecodable, 0},                // a host's
		{[]byte{0x71, 1, 0}, api.Undecodable, 0},             // a host's
		{[]byte{0x11, 0x18}, api.Undecodable, 0},             // B above 7
		{[]byte{0x11, 0x81}, api.Undecodable, 0},             // A above 7
		{[]byte{0x49, 0x01}, api.Undecodable, 0},             // no B
		{[]byte{0x20, 0x01, 0, 0, 0, 0}, api.Undecodable, 0}, // no B
		{[]byte{0x11}, api.NoFetch, 1},
		{[]byte{0x30, 0x11}, api.NoFetch, 2},
		{[]byte{0x20}, api.NoFetch, 1},
		{[]byte{0x20, 0x10, 0, 0, 0}, api.NoFetch, 5},
		{[]byte{0x20, 0xff, 0, 0, 0}, api.NoFetch, 5}, // ahead of what is refused
		{[]byte{0x11, 0x12, 0x04}, 0, 0},
	} {
		pc := 128 - uint32(len(c.bytes))
		fill(t, r, pc, c.bytes...)
		if c.cause == 0 {
			comes(t, r, at(pc, 0), 9, api.Block{Ins: []api.Ins{{Op: api.OAdd, A: 1, B: 2}}, At: []uint32{pc}, Next: pc + 2, End: api.EndNext, Frames: []int{1}})
			continue
		}
		fails(t, r, at(pc, 0), c.cause, pc+c.addr)
	}
	fails(t, r, at(128, 0), api.NoFetch, 128)
}

// TestP18_1FirstFaultWithPaging: each reason for which a page leads nowhere, of
// the first byte's and of a later one's.
func TestP18_1FirstFaultWithPaging(t *testing.T) {
	for _, c := range []struct {
		name  string
		at, w uint32
		fetch [2]bool // in the system's ring, in the user ring
	}{
		{"as it is", 2*64 + 4, 4*64 | all, [2]bool{true, true}},
		{"no EThere in the table", 2*64 + 4, 4*64 | all&^api.EThere, [2]bool{}},
		{"no entry in the table", 2*64 + 4, 0, [2]bool{}},
		{"no EThere in the directory", 0, 2*64 | all&^api.EThere, [2]bool{}},
		{"the table is beyond the memory", 0, 12*64 | all, [2]bool{}},
		{"the page is beyond the memory", 2*64 + 4, 12*64 | all, [2]bool{}},
		{"no EUser in the table", 2*64 + 4, 4*64 | all&^api.EUser, [2]bool{true, false}},
		{"no EUser in the directory", 0, 2*64 | all&^api.EUser, [2]bool{true, false}},
		{"EThere alone", 2*64 + 4, 4*64 | api.EThere, [2]bool{true, false}},
		{"no EWrite", 2*64 + 4, 4*64 | api.EThere | api.EUser, [2]bool{true, true}},
		{"ECode", 2*64 + 4, 4*64 | all | api.ECode, [2]bool{true, true}},
		{"ECode in the directory", 0, 2*64 | all | api.ECode, [2]bool{true, true}},
		{"EDirty", 2*64 + 4, 4*64 | all | api.EDirty, [2]bool{true, true}},
	} {
		r := paged(t)
		fill(t, r, 4*64, code(t, mov, jr)...)
		word(t, r, c.at, c.w)
		for ring, fetch := range c.fetch {
			s := at(64, api.PPage|uint32(ring)*api.PUser)
			b, f := scans(t, r, s, 9)
			if fetch {
				comes(t, r, s, 9, api.Block{Ins: []api.Ins{mov, jr}, At: []uint32{64, 66}, Next: 68, End: api.EndAsk, Frames: []int{4}, Tables: []int{0, 2}})
			} else if f != (api.Fault{Cause: api.NoFetch, Addr: 64}) {
				t.Errorf("%s, ring %d: %v, %+v", c.name, ring, b, f)
			}
		}
	}
}

// TestP18_1FirstOnTwoPages: an instruction of which some bytes lie on a further
// page, by which they come, or do not.
func TestP18_1FirstOnTwoPages(t *testing.T) {
	bytes := code(t, ldi)
	for behind := range uint32(6) { // how many bytes lie on the further page
		for _, c := range []struct {
			w      uint32
			frames []int
			cause  int
		}{
			{4*64 | all, []int{4, 7}, 0}, {11*64 | all, []int{7, 11}, 0}, {7*64 | all, []int{7}, 0}, {0, nil, api.NoFetch}, {4 * 64, nil, api.NoFetch}, {4*64 | api.EThere, nil, api.NoFetch},
		} {
			r := paged(t)
			word(t, r, 2*64+4, c.w)
			if c.cause == 0 {
				fill(t, r, c.w&^63, bytes[6-behind:]...)
			}
			fill(t, r, 7*64+58+behind, bytes[:6-behind]...)
			s := at(58+behind, api.PPage|api.PUser)
			switch {
			case behind == 0:
				comes(t, r, s, 1, api.Block{Ins: []api.Ins{ldi}, At: []uint32{58}, Next: 64, End: api.EndNext, Frames: []int{7}, Tables: []int{0, 2}})
			case c.cause == 0:
				comes(t, r, s, 1, api.Block{Ins: []api.Ins{ldi}, At: []uint32{58 + behind}, Next: 64 + behind, End: api.EndNext, Frames: c.frames, Tables: []int{0, 2}})
			default:
				fails(t, r, s, c.cause, 64)
			}
		}
	}
	// Undecodable tells the instruction's place, not that of the byte that is refused.
	r := paged(t)
	fill(t, r, 7*64+63, 0x11)
	fill(t, r, 4*64, 0x88)
	fails(t, r, at(63, api.PPage), api.Undecodable, 63)
}

// TestP18_1LaterFault: ahead of what can't be fetched a block ends, and nothing
// tells what that was.
func TestP18_1LaterFault(t *testing.T) {
	want := api.Block{Ins: []api.Ins{mov, ld}, At: []uint32{0, 2}, Next: 5, End: api.EndNext, Frames: []int{0}}
	for _, rest := range [][]byte{{4}, {0x70, 0}, {0x71, 0, 0}, {0x11, 0x80}, {0x49, 0x08}, {0x20, 0x71}, {0xff}} {
		r := memory(t, 1)
		fill(t, r, 0, code(t, mov, ld)...)
		fill(t, r, 5, rest...)
		comes(t, r, at(0, 0), 9, want)
		fails(t, r, at(5, 0), api.Undecodable, 5)
	}
	// The memory's end, ahead of an instruction and within it.
	for _, rest := range [][]byte{{}, {0x11}, {0x20, 1, 2, 3, 4}, {0x40}, {0x40, 1}} {
		r := memory(t, 2)
		pc := 128 - 5 - uint32(len(rest))
		fill(t, r, pc, code(t, mov, ld)...)
		fill(t, r, pc+5, rest...)
		comes(t, r, at(pc, 0), 9, api.Block{Ins: []api.Ins{mov, ld}, At: []uint32{pc, pc + 2}, Next: pc + 5, End: api.EndNext, Frames: []int{1}})
		fails(t, r, at(pc+5, 0), api.NoFetch, 128)
	}
}

// TestP18_1LaterPage: the further page leads nowhere, or may not be fetched by;
// neither its frame nor its tables are the block's then.
func TestP18_1LaterPage(t *testing.T) {
	for _, rest := range [][]byte{{}, {0x20}, {0x30, 0x34}, {0x20, 0, 1, 2, 3}} {
		for _, w := range []uint32{0, 8*64 | api.EWrite | api.EUser, 12*64 | all, 8*64 | api.EThere | api.EWrite} {
			r := paged(t)
			word(t, r, 64, w) // of the page at 1024, by another table
			pc := 1024 - 3 - uint32(len(rest))
			fill(t, r, 11*64-3-uint32(len(rest)), append(code(t, nop, mov), rest...)...)
			s := at(pc, api.PPage|api.PUser)
			comes(t, r, s, 9, api.Block{Ins: []api.Ins{nop, mov}, At: []uint32{pc, pc + 1}, Next: pc + 3, End: api.EndNext, Frames: []int{10}, Tables: []int{0, 2}})
		}
	}
	// A byte that was fetched, of an instruction that is none of the block's.
	for _, b := range []byte{4, 0x70} {
		r := paged(t)
		fill(t, r, 11*64-3, code(t, nop, mov)...)
		fill(t, r, 8*64, b)
		comes(t, r, at(1021, api.PPage), 9, api.Block{Ins: []api.Ins{nop, mov}, At: []uint32{1021, 1022}, Next: 1024, End: api.EndNext, Frames: []int{10}, Tables: []int{0, 2}})
		fill(t, r, 11*64-2, 0, 0x11)
		fill(t, r, 8*64, 0x80)
		comes(t, r, at(1021, api.PPage), 9, api.Block{Ins: []api.Ins{nop, nop}, At: []uint32{1021, 1022}, Next: 1023, End: api.EndNext, Frames: []int{10}, Tables: []int{0, 2}})
	}
}

// TestP18_1TwoPages: a block goes to the end of its second page, and no
// instruction further.
func TestP18_1TwoPages(t *testing.T) {
	for _, c := range []struct {
		pc   uint32
		list []api.Ins // those of the block
		more []api.Ins // what stands behind it
	}{
		// It begins with the last byte of a page, and fills the next.
		{63, append(append([]api.Ins{nop}, times(10, ldi)...), mov, mov), []api.Ins{nop}},
		{63, append(append([]api.Ins{nop}, times(10, ldi)...), mov, mov), []api.Ins{jmp}},
		{63, append(append([]api.Ins{nop}, times(10, ldi)...), mov, mov), []api.Ins{jr}},
		// The first one lies on two pages.
		{63, append(append([]api.Ins{mov}, times(10, ldi)...), ld), []api.Ins{nop}},
		{59, append(append([]api.Ins{ldi}, times(10, ldi)...), ld), []api.Ins{mov}},
		// One that would lie on the second page and a third.
		{62, append([]api.Ins{mov}, times(10, ldi)...), []api.Ins{ldi}},
		{62, append(append([]api.Ins{mov}, times(10, ldi)...), ld), []api.Ins{mov}},
		{62, append(append([]api.Ins{mov}, times(10, ldi)...), ld), []api.Ins{jmp}},
		{62, append(append([]api.Ins{mov}, times(10, ldi)...), ld), []api.Ins{jr}},
		// It begins with a page: 128 bytes.
		{64, append(times(21, ldi), mov), []api.Ins{nop}},
		{64, append(times(21, ldi), nop), []api.Ins{mov}},
		{64, append(times(21, ldi), nop), []api.Ins{ldi}},
		{65, times(21, ldi), []api.Ins{mov}},
		{65, append(times(21, ldi), nop), []api.Ins{nop}},
	} {
		r := memory(t, 4)
		fill(t, r, c.pc, code(t, append(slices.Clone(c.list), c.more...)...)...)
		want := api.Block{Ins: c.list, Next: c.pc, End: api.EndNext, Frames: []int{int(c.pc / 64), int(c.pc/64) + 1}}
		for _, i := range c.list {
			want.At = append(want.At, want.Next)
			want.Next += uint32(length(i.Op))
		}
		comes(t, r, at(c.pc, 0), 32, want)
		// One that ends a block, and just fits in.
		if last := len(c.list) - 1; length(c.list[last].Op) == 3 {
			fill(t, r, want.At[last], code(t, jmp)...)
			want.Ins = append(slices.Clone(c.list[:last]), jmp)
			want.End, want.To = api.EndJump, want.Next+7
			comes(t, r, at(c.pc, 0), 32, want)
		}
	}
}

// TestP18_1TwoPagesFromEachPlace: blocks of one size of instructions, from each
// place of a page on; nothing there ends them but the pages, and MaxBlock.
func TestP18_1TwoPagesFromEachPlace(t *testing.T) {
	for _, i := range []api.Ins{nop, mov, ld, ldi} {
		size := uint32(length(i.Op))
		for pc := range uint32(64) {
			r := memory(t, 6)
			fill(t, r, 64+pc, code(t, times(int(200/size), i)...)...)
			b, _ := scans(t, r, at(64+pc, 0), 40)
			if n := min(32, (128-pc)/size); len(b.Ins) != int(n) || b.Next != 64+pc+n*size || b.End != api.EndNext {
				t.Errorf("%+v from %d on: %v", i, 64+pc, b)
			}
		}
	}
}

// TestP18_1PagesCountNotFrames: two pages that lead to one frame are two, and
// that they do leaves no room for a third one.
func TestP18_1PagesCountNotFrames(t *testing.T) {
	r := paged(t)
	word(t, r, 2*64, 3*64|all)
	word(t, r, 2*64+4, 3*64|all)
	word(t, r, 2*64+8, 3*64|all)
	fill(t, r, 3*64, code(t, append(times(10, ldi), mov, mov)...)...)
	want := append(append(times(10, ldi), mov, mov), append(times(10, ldi), mov, mov)...)
	b, _ := scans(t, r, at(0, api.PPage), 32)
	if !slices.Equal(b.Ins, want) || b.Next != 128 || b.End != api.EndNext || !slices.Equal(b.Frames, []int{3}) || !slices.Equal(b.Tables, []int{0, 2}) {
		t.Errorf("%v", b)
	}
}

func TestP18_1FramesAndTables(t *testing.T) {
	r := paged(t)
	word(t, r, 2*64+16, 11*64|all)
	for _, c := range []struct {
		pc             uint32 // on its page, and on the next one, there are instructions
		frames, tables []int
	}{
		{60, []int{4, 7}, []int{0, 2}},       // falling
		{124, []int{4, 9}, []int{0, 2}},      // rising
		{188, []int{3, 9}, []int{0, 2}},      // falling
		{252, []int{3, 11}, []int{0, 2}},     // rising
		{1020, []int{8, 10}, []int{0, 1, 2}}, // by two tables, the greater one first
	} {
		for _, page := range []uint32{c.pc / 64, c.pc/64 + 1} {
			at := page * 64
			if page == 16 {
				at = 1024
			}
			way := map[uint32]uint32{0: 7, 64: 4, 128: 9, 192: 3, 256: 11, 960: 10, 1024: 8}[at]
			fill(t, r, way*64, slices.Repeat([]byte{0x10, 0x12}, 32)...)
		}
		b, _ := scans(t, r, at(c.pc, api.PPage|api.PUser), 9)
		if len(b.Ins) != 9 || !slices.Equal(b.Frames, c.frames) || !slices.Equal(b.Tables, c.tables) {
			t.Errorf("from %d on: %v", c.pc, b)
		}
		// On the first page alone.
		b, _ = scans(t, r, at(c.pc, api.PPage|api.PUser), 2)
		if len(b.Ins) != 2 || len(b.Frames) != 1 || !slices.Equal(b.Tables, []int{0, 2}) {
			t.Errorf("from %d on, two: %v", c.pc, b)
		}
		// And without paging there is no table.
		b, _ = scans(t, r, at(7*64, api.PUser), 2)
		if len(b.Ins) != 2 || !slices.Equal(b.Frames, []int{7}) || len(b.Tables) != 0 {
			t.Errorf("without paging: %v", b)
		}
	}
}

// TestP18_1OneFrame: where the directory, a table and a page lie in one frame,
// it is told once in each list.
func TestP18_1OneFrame(t *testing.T) {
	r := memory(t, 3)
	s := at(64+40, api.PPage)
	s.CR[api.CRoot] = 64
	word(t, r, 64, 64|all)   // the directory's entry 0 leads to itself,
	word(t, r, 64+4, 64|all) // and the page at 64, too
	fill(t, r, 64+40, code(t, mov, jr)...)
	comes(t, r, s, 9, api.Block{Ins: []api.Ins{mov, jr}, At: []uint32{104, 106}, Next: 108, End: api.EndAsk, Frames: []int{1}, Tables: []int{1}})
	// Directory and table apart, the greater one first; code in the table.
	word(t, r, 2*64, 0*64|all)
	word(t, r, 4, 0*64|all)
	fill(t, r, 40, code(t, mov, jr)...)
	s.CR[api.CRoot] = 2 * 64
	comes(t, r, s, 9, api.Block{Ins: []api.Ins{mov, jr}, At: []uint32{104, 106}, Next: 108, End: api.EndAsk, Frames: []int{0}, Tables: []int{0, 2}})
}

// TestP18_1TheSpacesEnd: its last page is one like the others, and behind it
// there is nothing, whatever stands in the memory behind the directory.
func TestP18_1TheSpacesEnd(t *testing.T) {
	for _, c := range []struct {
		bytes []byte
		n     int
	}{{[]byte{0x10, 0x12}, 1}, {[]byte{0, 0, 0x10, 0x12}, 3}, {[]byte{0, 0x11}, 1}, {[]byte{0, 0, 0x20, 0x12, 0, 0, 0}, 2}} {
		r := paged(t)
		s := at(16384-uint32(len(c.bytes)), api.PPage)
		fill(t, r, 7*64-uint32(len(c.bytes)), c.bytes...)
		word(t, r, 64, 64|all) // it would be the directory's entry 16
		b, _ := scans(t, r, s, 9)
		if len(b.Ins) != c.n || !slices.Equal(b.Frames, []int{6}) || !slices.Equal(b.Tables, []int{0, 1}) || b.End != api.EndNext {
			t.Errorf("% x: %v", c.bytes, b)
		}
		fails(t, r, at(16384, api.PPage), api.NoFetch, 16384)
	}
	r := paged(t)
	fill(t, r, 7*64-1, 0x11)
	fails(t, r, at(16383, api.PPage), api.NoFetch, 16384)
}

// TestP18_1WhatCounts: of a state the place, two bits of the status, and the
// root without its lowest bits.
func TestP18_1WhatCounts(t *testing.T) {
	r := paged(t)
	fill(t, r, 7*64+60, code(t, mov, mov)...)
	fill(t, r, 4*64, code(t, mov, jr)...)
	want, _ := scans(t, r, at(60, api.PPage), 9)
	if len(want.Ins) != 4 {
		t.Fatalf("%v", want)
	}
	for bit := range 32 {
		if ps := uint32(1) << bit; ps != api.PPage {
			comes(t, r, at(60, api.PPage|ps), 9, want)
		}
	}
	for low := range uint32(64) {
		s := at(60, api.PPage)
		s.Halted = low%2 == 0
		for k := range s.R {
			s.R[k], s.CR[k] = 99+low, 98+low
		}
		s.CR[api.CRoot] = low
		comes(t, r, s, 9, want)
	}
	// The system's ring alone comes to pages without EUser; without paging neither counts, nor the root.
	word(t, r, 2*64, 7*64|api.EThere)
	comes(t, r, at(60, api.PPage), 9, want)
	fails(t, r, at(60, api.PPage|api.PUser), api.NoFetch, 60)
	s := at(7*64+60, api.PUser)
	s.CR[api.CRoot] = 0xffffffff
	comes(t, r, s, 2, api.Block{Ins: []api.Ins{mov, mov}, At: []uint32{508, 510}, Next: 512, End: api.EndNext, Frames: []int{7}})
}

// TestP18_1Root: another root, another way; one beyond the memory is none.
func TestP18_1Root(t *testing.T) {
	r := paged(t)
	fill(t, r, 7*64+60, code(t, mov, jr)...)
	fill(t, r, 8*64+60, code(t, ld, nop)...)
	s := at(60, api.PPage)
	comes(t, r, s, 9, api.Block{Ins: []api.Ins{mov, jr}, At: []uint32{60, 62}, Next: 64, End: api.EndAsk, Frames: []int{7}, Tables: []int{0, 2}})
	word(t, r, 11*64, 64|all)
	s.CR[api.CRoot] = 11*64 + 5
	comes(t, r, s, 9, api.Block{Ins: []api.Ins{ld, nop}, At: []uint32{60, 63}, Next: 64, End: api.EndNext, Frames: []int{8}, Tables: []int{1, 11}})
	for _, root := range []uint32{10 * 64, 12 * 64, 13*64 + 63, 0x80000000, 0xffffffff, 0xffffffc0} {
		s.CR[api.CRoot] = root
		fails(t, r, s, api.NoFetch, 60)
	}
}

// TestP18_1GreatMemory: without paging a place may be as high as the memory is.
func TestP18_1GreatMemory(t *testing.T) {
	r := memory(t, api.MaxHost)
	for _, pc := range []uint32{16380, 16384, 4096 - 1, 32700, 32768 - 5} {
		fill(t, r, pc, code(t, ld, jr)...)
		want := api.Block{Ins: []api.Ins{ld, jr}, At: []uint32{pc, pc + 3}, Next: pc + 5, End: api.EndAsk, Frames: []int{int(pc / 64)}}
		if last := int((pc + 4) / 64); last > int(pc/64) {
			want.Frames = append(want.Frames, last)
		}
		comes(t, r, at(pc, 0), 9, want)
	}
}

// TestP18_1Window: frames are those of the memory that is handed in, wherever
// they lie behind it.
func TestP18_1Window(t *testing.T) {
	r := memory(t, 20)
	w, e := r.Window([]int{19, 4, 9, 2, 11})
	if e != api.OK {
		t.Fatal(int(e))
	}
	word(t, w, 2*64, 64|all)
	word(t, w, 64, 4*64|all)
	word(t, w, 68, 3*64|all)
	fill(t, r, 11*64+63, 0x10)
	fill(t, r, 2*64, 0x12)
	fill(t, r, 2*64+1, code(t, jr)...)
	s := at(63, api.PPage)
	s.CR[api.CRoot] = 2 * 64
	comes(t, w, s, 9, api.Block{Ins: []api.Ins{mov, jr}, At: []uint32{63, 65}, Next: 67, End: api.EndAsk, Frames: []int{3, 4}, Tables: []int{1, 2}})
	fails(t, w, at(4*64+63, 0), api.NoFetch, 5*64)
	comes(t, w, at(3*64+1, 0), 9, api.Block{Ins: []api.Ins{jr}, At: []uint32{193}, Next: 195, End: api.EndAsk, Frames: []int{3}})
}

// TestP18_1AnswersAreTheCallersOwn (R3, R4): what is done with one turns no
// other, nor the memory.
func TestP18_1AnswersAreTheCallersOwn(t *testing.T) {
	r := paged(t)
	fill(t, r, 7*64+50, code(t, append(times(7, mov), jmp)...)...)
	fill(t, r, 4*64, 0x10, 0x12)
	s := at(50, api.PPage)
	was := flat(r)
	one, _ := scan.Scan(r, s, 9)
	two, _ := scan.Scan(r, s, 9)
	want := paper{was, s}.scan(9)
	for k := range one.Ins {
		one.Ins[k].Op, one.At[k] = 99, 77
	}
	one.Frames[0], one.Tables[0] = 88, 88
	_, _ = append(one.Ins[:1], ldi), append(one.Frames[:1], one.Tables[:1]...)
	if fault := differs(two, want.Block); fault != "" {
		t.Error(fault)
	}
	comes(t, r, s, 9, want.Block)
	if !slices.Equal(flat(r), was) {
		t.Error("the memory has changed")
	}
	// Frames and Tables of one answer are two lists, also where they say the same.
	r = memory(t, 1)
	word(t, r, 0, all)
	fill(t, r, 40, code(t, mov, jr)...)
	b, _ := scan.Scan(r, at(40, api.PPage), 9)
	if len(b.Frames) != 1 || len(b.Tables) != 1 {
		t.Fatalf("%v", b)
	}
	if b.Frames[0] = 5; b.Tables[0] != 0 {
		t.Error("Frames and Tables share memory")
	}
}

// TestP18_1AfterTheMemoryChanged (R4): what stands there now is scanned.
func TestP18_1AfterTheMemoryChanged(t *testing.T) {
	r := paged(t)
	s := at(60, api.PPage)
	fill(t, r, 7*64+60, code(t, mov, jr)...)
	fill(t, r, 4*64+60, code(t, jmp)...)
	comes(t, r, s, 9, api.Block{Ins: []api.Ins{mov, jr}, At: []uint32{60, 62}, Next: 64, End: api.EndAsk, Frames: []int{7}, Tables: []int{0, 2}})
	fill(t, r, 7*64+61, 0x55)
	comes(t, r, s, 9, api.Block{Ins: []api.Ins{{Op: api.OMov, A: 5, B: 5}, jr}, At: []uint32{60, 62}, Next: 64, End: api.EndAsk, Frames: []int{7}, Tables: []int{0, 2}})
	word(t, r, 2*64, 4*64|all)
	comes(t, r, s, 9, api.Block{Ins: []api.Ins{jmp}, At: []uint32{60}, Next: 63, To: 70, End: api.EndJump, Frames: []int{4}, Tables: []int{0, 2}})
}

// TestP18_2NoByte: of nil RAMs, and of such as no call made.
func TestP18_2NoByte(t *testing.T) {
	for name, r := range map[string]*ram.RAM{"a nil RAM": nil, "a RAM that no call made": {}} {
		for _, pc := range []uint32{0, 1, 7, 63, 64, 16383, 16384, 0x80000000, 0xfffffffe, 0xffffffff} {
			for _, ps := range []uint32{0, api.PUser, api.PPage, api.PPage | api.PUser, api.PMask, 0xffffffff} {
				for _, most := range []int{math.MinInt, -1, 0, 1, 9, 32, 33, math.MaxInt} {
					for _, root := range []uint32{0, 64, 0xffffffff} {
						s := api.State{PC: pc, PS: ps, CR: [8]uint32{root, 1, 2, 3, 4, 5, 6, 7}}
						b, f := scan.Scan(r, s, most)
						if f != (api.Fault{Cause: api.NoFetch, Addr: pc}) {
							t.Errorf("%s: %+v", name, f)
						}
						if fault := differs(b, api.Block{}); fault != "" {
							t.Errorf("%s: %s", name, fault)
						}
					}
				}
			}
		}
	}
}
