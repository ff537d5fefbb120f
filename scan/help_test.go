package scan_test

import (
	"bytes"
	"fmt"
	"slices"
	"testing"

	"mummer/api"
	"mummer/isa"
	"mummer/ram"
	"mummer/scan"
)

// all is an entry that lets everything.
const all = api.EThere | api.EWrite | api.EUser

func memory(t *testing.T, frames int) *ram.RAM {
	t.Helper()
	r, e := ram.New(frames)
	if e != api.OK {
		t.Fatalf("ram.New(%d): %d", frames, int(e))
	}
	return r
}

// paged is a memory of twelve frames. The directory is in frame 0; its entry 0
// leads to the table in frame 2, the entries 1 and 15 to that in frame 1. The
// addresses 0, 64, 128 .. lead to the frames 7, 4, 9, 3, 3, 2, 0; 960 to frame
// 10, 1024 to frame 8, 16320 to frame 6: each with all.
func paged(t *testing.T) *ram.RAM {
	t.Helper()
	r := memory(t, 12)
	word(t, r, 0, 2*64|all)
	word(t, r, 4, 1*64|all)
	word(t, r, 60, 1*64|all)
	for k, frame := range []uint32{7, 4, 9, 3, 3, 2, 0} {
		word(t, r, uint32(2*64+4*k), 64*frame|all)
	}
	word(t, r, 2*64+60, 10*64|all)
	word(t, r, 1*64, 8*64|all)
	word(t, r, 1*64+60, 6*64|all)
	return r
}

func word(t *testing.T, r *ram.RAM, at, w uint32) {
	t.Helper()
	if !r.SetWord(at, w) {
		t.Fatalf("no word at %d", at)
	}
}

func fill(t *testing.T, r *ram.RAM, at uint32, b ...byte) {
	t.Helper()
	if !r.Fill(at, b) {
		t.Fatalf("%d bytes do not fit in from %d on", len(b), at)
	}
}

// code is the bytes of instructions, one behind the other.
func code(t *testing.T, list ...api.Ins) []byte {
	t.Helper()
	var b []byte
	for _, i := range list {
		piece, e := isa.Encode(i, false)
		if e != api.OK {
			t.Fatalf("%+v: %d", i, int(e))
		}
		b = append(b, piece...)
	}
	return b
}

// times is as many of one instruction.
func times(n int, i api.Ins) []api.Ins { return slices.Repeat([]api.Ins{i}, n) }

// flat is all of a memory's bytes.
func flat(r *ram.RAM) []byte {
	var b []byte
	for n := range int(r.Size() / 64) {
		b = append(b, r.Frame(n)...)
	}
	return b
}

// at is a state at a place.
func at(pc, ps uint32) api.State { return api.State{PC: pc, PS: ps} }

// differs says in what two blocks differ; empty: in nothing. No list and an
// empty one are the same.
func differs(got, want api.Block) string {
	switch {
	case !slices.Equal(got.Ins, want.Ins):
		return fmt.Sprintf("Ins is %v, want %v", got.Ins, want.Ins)
	case !slices.Equal(got.At, want.At):
		return fmt.Sprintf("At is %v, want %v", got.At, want.At)
	case got.Next != want.Next || got.To != want.To || got.End != want.End:
		return fmt.Sprintf("Next, To, End are %d, %d, %d, want %d, %d, %d", got.Next, got.To, got.End, want.Next, want.To, want.End)
	case !slices.Equal(got.Frames, want.Frames):
		return fmt.Sprintf("Frames is %v, want %v", got.Frames, want.Frames)
	case !slices.Equal(got.Tables, want.Tables):
		return fmt.Sprintf("Tables is %v, want %v", got.Tables, want.Tables)
	}
	return ""
}

// scans is what Scan answers, held against the test's own reading. The memory
// must stay as it is.
func scans(t *testing.T, r *ram.RAM, s api.State, most int) (api.Block, api.Fault) {
	t.Helper()
	was := flat(r)
	b, f := scan.Scan(r, s, most)
	want := paper{was, s}.scan(most)
	if f != want.Fault {
		t.Fatalf("at %#x with the status %#x, most %d: %+v, want %+v", s.PC, s.PS, most, f, want.Fault)
	}
	if fault := differs(b, want.Block); fault != "" {
		t.Fatalf("at %#x with the status %#x, most %d: %s", s.PC, s.PS, most, fault)
	}
	if !bytes.Equal(flat(r), was) {
		t.Fatalf("at %#x with the status %#x: the memory has changed", s.PC, s.PS)
	}
	return b, f
}

// comes holds what Scan answers against a block that is typed out, too.
func comes(t *testing.T, r *ram.RAM, s api.State, most int, want api.Block) {
	t.Helper()
	b, _ := scans(t, r, s, most)
	if fault := differs(b, want); fault != "" {
		t.Errorf("at %#x, most %d: %s", s.PC, most, fault)
	}
}

// fails holds what Scan answers against a fault that is typed out, too.
func fails(t *testing.T, r *ram.RAM, s api.State, cause int, addr uint32) {
	t.Helper()
	for _, most := range []int{-1, 1, 2, 32} {
		b, f := scans(t, r, s, most)
		if f != (api.Fault{Cause: cause, Addr: addr}) {
			t.Errorf("at %#x with the status %#x: %+v, want %d, %#x", s.PC, s.PS, f, cause, addr)
		}
		if fault := differs(b, api.Block{}); fault != "" {
			t.Errorf("beside a fault: %s", fault)
		}
	}
}
