package translate_test

import (
	"bytes"
	"math/rand"
	"slices"
	"testing"

	"mummer/api"
	"mummer/translate"
)

// block is one of these instructions, the first one at a place, with the End
// that is its last one's; To is where nothing else leads.
func block(place uint32, list ...api.Ins) api.Block {
	b := api.Block{Ins: list, Next: place, To: 0xfedcba98, End: 4}
	for _, i := range list {
		b.At = append(b.At, b.Next)
		b.Next += uint32(len(paperBytes(i)))
		b.End = ending(i.Op)
	}
	return b
}

// nops is a row of as many.
func nops(n int) []api.Ins { return make([]api.Ins, n) }

// made is a block's code, held against the test's own reading.
func made(t *testing.T, b api.Block, first int) api.Code {
	t.Helper()
	if !paperMay(b) || !translate.May(b) {
		t.Fatalf("%+v may be: %t, want %t", b, translate.May(b), paperMay(b))
	}
	c, e := translate.Translate(b, first)
	want := paperCode(b, first)
	if e != api.OK || !bytes.Equal(c.Bytes, want.Bytes) || !slices.Equal(c.Rows, want.Rows) {
		t.Fatalf("%+v, %d: % x %v %d, want % x %v", b, first, c.Bytes, c.Rows, int(e), want.Bytes, want.Rows)
	}
	return c
}

// comes holds a block's code against what is typed out, too.
func comes(t *testing.T, b api.Block, first int, text string, rows ...api.Row) {
	t.Helper()
	if c := made(t, b, first); string(c.Bytes) != text || !slices.Equal(c.Rows, rows) {
		t.Errorf("%+v, %d: % x %v, want % x %v", b, first, c.Bytes, c.Rows, text, rows)
	}
}

// none holds that there is no code of a block with that first exit.
func none(t *testing.T, b api.Block, first int) {
	t.Helper()
	if c, e := translate.Translate(b, first); e != api.ErrArg || c.Bytes != nil || c.Rows != nil {
		t.Fatalf("%+v, %d: % x %v %d, want ErrArg", b, first, c.Bytes, c.Rows, int(e))
	}
}

// mayNot holds that a block may not be.
func mayNot(t *testing.T, b api.Block) {
	t.Helper()
	if paperMay(b) || translate.May(b) {
		t.Fatalf("%+v may be: %t", b, translate.May(b))
	}
	none(t, b, 0)
	none(t, b, 65534)
	none(t, b, -1)
}

// asked holds whatever is answered of a block against the test's own reading.
func asked(t *testing.T, b api.Block, first int) bool {
	t.Helper()
	if !paperMay(b) {
		mayNot(t, b)
		return false
	}
	made(t, b, first)
	return true
}

// guests is the operations of a guest's with an End.
func guests(end int) []byte {
	var l []byte
	for op := range 256 {
		if _, is := shapeOf(byte(op)); is && ending(byte(op)) == end {
			l = append(l, byte(op))
		}
	}
	return l
}

// drawIns is an instruction that may be, of one of these operations.
func drawIns(x *rand.Rand, ops []byte) api.Ins {
	i := api.Ins{Op: ops[x.Intn(len(ops))]}
	s, _ := shapeOf(i.Op)
	if s.registers >= 1 {
		i.A = uint8(x.Intn(8))
	}
	if s.registers == 2 {
		i.B = uint8(x.Intn(8))
	}
	switch x.Intn(8) {
	case 0:
		i.Imm = int32(s.low)
	case 1:
		i.Imm = int32(s.high)
	default:
		i.Imm = int32(s.low + x.Int63n(s.high-s.low+1))
	}
	return i
}

// drawBlock is a block that may be, all of whose places are drawn.
func drawBlock(x *rand.Rand) api.Block {
	n := 1 + x.Intn(32)
	b := api.Block{End: 1 + x.Intn(4), Next: drawNumber(x), To: drawNumber(x)}
	for range n - 1 {
		b.Ins = append(b.Ins, drawIns(x, guests(1)))
	}
	b.Ins = append(b.Ins, drawIns(x, guests(b.End)))
	for range n {
		b.At = append(b.At, drawNumber(x))
	}
	for range x.Intn(3) {
		b.Frames, b.Tables = append(b.Frames, x.Int()-x.Int()), append(b.Tables, x.Intn(64))
	}
	return b
}

func drawNumber(x *rand.Rand) uint32 {
	switch x.Intn(6) {
	case 0:
		return 0
	case 1:
		return 0xffffffff - uint32(x.Intn(3))
	case 2:
		return 0x80000000 - uint32(x.Intn(2))
	}
	return x.Uint32()
}

// copied is a block of the same contents, in memory of its own.
func copied(b api.Block) api.Block {
	b.Ins, b.At = slices.Clone(b.Ins), slices.Clone(b.At)
	b.Frames, b.Tables = slices.Clone(b.Frames), slices.Clone(b.Tables)
	return b
}
