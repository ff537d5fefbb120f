package stub_test

import (
	"bytes"
	"math"
	"math/rand"
	"testing"

	"mummer/api"
	"mummer/core"
	"mummer/isa"
	"mummer/stub"
)

// numbers are the ends of all that is asked for, one beyond each, and such as
// would be within if they were cut to 8, 16 or 32 bits.
func numbers() []int {
	return []int{
		math.MinInt, math.MinInt + 3, math.MinInt32 - 1, math.MinInt32, math.MinInt32 + 1, -1<<32 + 5, -1 << 32,
		-65536, -65535, -32769, -32768, -32767, -257, -256, -255, -3, -2, -1,
		0, 1, 2, 3, 4, 5, 127, 128, 254, 255, 256, 257, 258, 511, 512, 4096, 32762, 32763, 32764, 32765, 32766, 32767,
		32768, 32769, 32770, 65279, 65280, 65281, 65534, 65535, 65536, 65537, 65538, 1 << 24, 1<<31 - 1, 1 << 31, 1<<31 + 1,
		1<<32 - 1, 1 << 32, 1<<32 + 1, 1<<32 + 255, 1<<48 + 3, math.MaxInt - 1, math.MaxInt,
	}
}

// stubs is the test's own reading of Stub, for numbers that may be.
func stubs(n, exit int) []byte {
	return []byte{0x70, byte(n), 0x71, byte(exit % 256), byte(exit / 256)}
}

// jumps is the test's own reading of Jump, for places that may be.
func jumps(at, to int) []byte {
	far := (65536 + to - at - 3) % 65536
	return []byte{0x40, byte(far % 256), byte(far / 256)}
}

// reads is the test's own reading of Read.
func reads(b []byte) (int, int, bool) {
	if len(b) == 5 && b[0] == 0x70 && b[2] == 0x71 {
		return int(b[1]), int(b[3]) + 256*int(b[4]), true
	}
	return 0, 0, false
}

func made(t *testing.T, n, exit int) []byte {
	t.Helper()
	b, e := stub.Stub(n, exit)
	if e != api.OK || !bytes.Equal(b, stubs(n, exit)) {
		t.Fatalf("Stub(%d, %d) = % x, %d, want % x", n, exit, b, int(e), stubs(n, exit))
	}
	return b
}

func led(t *testing.T, at, to int) []byte {
	t.Helper()
	b, e := stub.Jump(at, to)
	if e != api.OK || !bytes.Equal(b, jumps(at, to)) {
		t.Fatalf("Jump(%d, %d) = % x, %d, want % x", at, to, b, int(e), jumps(at, to))
	}
	return b
}

func refused(t *testing.T, name string, of func(a, b int) ([]byte, api.Errno), a, b int, want api.Errno) {
	t.Helper()
	if got, e := of(a, b); e != want || len(got) != 0 {
		t.Fatalf("%s(%d, %d) = % x, %d, want none, %d", name, a, b, got, int(e), int(want))
	}
}

// told holds what Read answers against the test's own reading. The bytes must
// stay as they are, and those in their spare room too.
func told(t *testing.T, b []byte) bool {
	t.Helper()
	whole := b[:cap(b)]
	was := bytes.Clone(whole)
	n, exit, is := stub.Read(b)
	wantN, wantExit, want := reads(b)
	if n != wantN || exit != wantExit || is != want {
		t.Fatalf("Read(% x) = %d, %d, %v, want %d, %d, %v", b, n, exit, is, wantN, wantExit, want)
	}
	if !bytes.Equal(whole, was) {
		t.Fatalf("Read(% x) has changed what it was given", was[:len(b)])
	}
	return is
}

func none(t *testing.T, b []byte) {
	t.Helper()
	if told(t, b) {
		t.Fatalf("% x is a stub", b)
	}
}

func TestExamples(t *testing.T) {
	if b, e := stub.Stub(3, 258); e != api.OK || string(b) != "\x70\x03\x71\x02\x01" {
		t.Errorf("Stub(3, 258) = % x, %d", b, int(e))
	}
	if b, e := stub.Jump(10, 20); e != api.OK || string(b) != "\x40\x07\x00" {
		t.Errorf("Jump(10, 20) = % x, %d", b, int(e))
	}
	if b, e := stub.Jump(20, 10); e != api.OK || string(b) != "\x40\xf3\xff" {
		t.Errorf("Jump(20, 10) = % x, %d", b, int(e))
	}
	if n, exit, is := stub.Read([]byte{0x70, 0x03, 0x71, 0x02, 0x01}); n != 3 || exit != 258 || !is {
		t.Errorf("Read(70 03 71 02 01) = %d, %d, %v", n, exit, is)
	}
}

func TestP19_1TypedOut(t *testing.T) {
	for _, x := range []struct {
		n, exit int
		b       string
	}{
		{0, 0, "\x70\x00\x71\x00\x00"},
		{255, 65535, "\x70\xff\x71\xff\xff"},
		{255, 0, "\x70\xff\x71\x00\x00"},
		{0, 65535, "\x70\x00\x71\xff\xff"},
		{1, 255, "\x70\x01\x71\xff\x00"},
		{128, 256, "\x70\x80\x71\x00\x01"},
		{127, 32767, "\x70\x7f\x71\xff\x7f"},
		{32, 32768, "\x70\x20\x71\x00\x80"},
		{112, 0x7071, "\x70\x70\x71\x71\x70"},
	} {
		if b, e := stub.Stub(x.n, x.exit); e != api.OK || string(b) != x.b {
			t.Errorf("Stub(%d, %d) = % x, %d, want % x", x.n, x.exit, b, int(e), x.b)
		}
	}
	for _, x := range [][2]int{
		{-1, 0}, {256, 0}, {0, -1}, {0, 65536}, {-1, -1}, {256, 65536}, {-1, 65536}, {256, -1}, {255, 65536}, {256, 65535},
		{65535, 255}, {1 << 32, 0}, {0, 1 << 32}, {1<<32 + 3, 258}, {3, 1<<32 + 258}, {math.MinInt, 0}, {0, math.MinInt},
		{math.MaxInt, math.MaxInt},
	} {
		refused(t, "Stub", stub.Stub, x[0], x[1], api.ErrArg)
	}
}

func TestP19_1NumbersOfAnySize(t *testing.T) {
	for _, n := range numbers() {
		for _, exit := range numbers() {
			if n < 0 || n > 255 || exit < 0 || exit > 65535 {
				refused(t, "Stub", stub.Stub, n, exit, api.ErrArg)
				continue
			}
			made(t, n, exit)
		}
	}
}

func TestP19_1EachNumber(t *testing.T) {
	for n := range 256 {
		for _, exit := range []int{0, 1, 255, 256, 258, 32767, 32768, 65534, 65535} {
			made(t, n, exit)
		}
	}
	for exit := range 65536 {
		for _, n := range []int{0, 1, 32, 128, 255} {
			made(t, n, exit)
		}
	}
}

func TestP19_2TypedOut(t *testing.T) {
	for _, x := range []struct {
		at, to int
		b      string
	}{
		{0, 0, "\x40\xfd\xff"},
		{0, 1, "\x40\xfe\xff"},
		{0, 2, "\x40\xff\xff"},
		{0, 3, "\x40\x00\x00"},
		{0, 4, "\x40\x01\x00"},
		{0, 130, "\x40\x7f\x00"},
		{0, 131, "\x40\x80\x00"},
		{0, 258, "\x40\xff\x00"},
		{0, 259, "\x40\x00\x01"},
		{32767, 32767, "\x40\xfd\xff"},
		{32764, 32767, "\x40\x00\x00"},
		{32767, 32764, "\x40\xfa\xff"},
		// as far ahead as there are places
		{0, 32767, "\x40\xfc\x7f"},
		{0, 32766, "\x40\xfb\x7f"},
		{1, 32767, "\x40\xfb\x7f"},
		// as far back as a jump leads
		{32765, 0, "\x40\x00\x80"},
		{32766, 1, "\x40\x00\x80"},
		{32767, 2, "\x40\x00\x80"},
		{32764, 0, "\x40\x01\x80"},
		{32767, 3, "\x40\x01\x80"},
	} {
		if b, e := stub.Jump(x.at, x.to); e != api.OK || string(b) != x.b {
			t.Errorf("Jump(%d, %d) = % x, %d, want % x", x.at, x.to, b, int(e), x.b)
		}
	}
	for _, x := range [][2]int{{32766, 0}, {32767, 0}, {32767, 1}} {
		refused(t, "Jump", stub.Jump, x[0], x[1], api.ErrLong)
	}
	// a place that may not be is told ahead of a way that is too long
	for _, x := range [][2]int{
		{-1, 0}, {0, -1}, {32768, 0}, {0, 32768}, {-1, -1}, {32768, 32768}, {-1, 32767}, {32767, -1}, {32768, 32767}, {32767, 32768},
		{32768, -1}, {-1, 32768}, {65536, 0}, {0, 65536}, {1 << 32, 0}, {0, 1 << 32}, {1<<32 + 10, 1<<32 + 20},
		{math.MaxInt, 0}, {0, math.MaxInt}, {math.MinInt, 0}, {0, math.MinInt}, {math.MinInt, math.MaxInt},
		{math.MaxInt, math.MinInt}, {math.MaxInt, math.MaxInt}, {math.MinInt, math.MinInt},
	} {
		refused(t, "Jump", stub.Jump, x[0], x[1], api.ErrArg)
	}
}

// leads holds what Jump answers against the test's own reading.
func leads(t *testing.T, at, to int) {
	t.Helper()
	switch {
	case at < 0 || at > 32767 || to < 0 || to > 32767:
		refused(t, "Jump", stub.Jump, at, to, api.ErrArg)
	case to-at-3 < -32768:
		refused(t, "Jump", stub.Jump, at, to, api.ErrLong)
	default:
		led(t, at, to)
	}
}

func TestP19_2NumbersOfAnySize(t *testing.T) {
	for _, at := range numbers() {
		for _, to := range numbers() {
			leads(t, at, to)
		}
	}
}

func TestP19_2EachPlace(t *testing.T) {
	for place := -2; place <= 32769; place++ {
		for _, other := range []int{-1, 0, 1, 2, 3, 4, 255, 16384, 32763, 32764, 32765, 32766, 32767, 32768} {
			leads(t, place, other)
			leads(t, other, place)
		}
	}
}

// TestP19_2DoneWhereTheyStand: a jump is a guest's instruction too, so package
// core does it; it turns the place alone, whatever else the state is.
func TestP19_2DoneWhereTheyStand(t *testing.T) {
	states := []api.State{
		{},
		{R: [8]uint32{1, 2, 3, 4, 5, 6, 7, 8}, PS: api.PMask, CR: [8]uint32{9, 8, 7, 6, 5, 4, 3, 2}},
		{PS: api.PUser | api.PPage | api.FC},
	}
	done := func(at, to int) {
		t.Helper()
		b := led(t, at, to)
		i, size, e := isa.Decode(b, false)
		if size != len(b) || e != api.OK {
			t.Fatalf("% x is %+v, %d, %d", b, i, size, int(e))
		}
		for _, s := range states {
			s.PC = uint32(at)
			want := s
			want.PC = uint32(to)
			if after, f := core.Do(s, i, 0); f.Cause != 0 || after != want {
				t.Fatalf("% x at %d leads to %d, with %+v, want %d", b, at, after.PC, f, to)
			}
		}
	}
	edges := []int{0, 1, 2, 3, 4, 63, 64, 255, 256, 4095, 16383, 16384, 32764, 32765, 32766, 32767}
	for _, at := range edges {
		for _, to := range edges {
			if to-at-3 >= -32768 {
				done(at, to)
			}
		}
	}
	r := rand.New(rand.NewSource(19))
	for range 20000 {
		at, to := r.Intn(32766), r.Intn(32768) // no way from below 32766 is too long
		done(at, to)
	}
}

func TestP19_3Stubs(t *testing.T) {
	for _, x := range []struct {
		b       string
		n, exit int
	}{
		{"\x70\x00\x71\x00\x00", 0, 0},
		{"\x70\xff\x71\xff\xff", 255, 65535},
		{"\x70\x80\x71\x00\x80", 128, 32768},
		{"\x70\x7f\x71\xff\x7f", 127, 32767},
		{"\x70\x01\x71\xff\x00", 1, 255},
		{"\x70\x70\x71\x71\x70", 0x70, 0x7071},
		{"\x70\x71\x71\x70\x71", 0x71, 0x7170},
	} {
		if n, exit, is := stub.Read([]byte(x.b)); n != x.n || exit != x.exit || !is {
			t.Errorf("Read(% x) = %d, %d, %v, want %d, %d, true", x.b, n, exit, is, x.n, x.exit)
		}
	}
}

func TestP19_3NoStubs(t *testing.T) {
	for _, b := range []string{
		"", "\x70", "\x71", "\x70\x03", "\x71\x02\x01", "\x70\x03\x71", "\x70\x03\x71\x02",
		"\x71\x02\x01\x70\x03",         // the other way round
		"\x70\x03\x40\x02\x01",         // a jump in the leave's place
		"\x70\x03\x70\x04\x00",         // two tallies
		"\x71\x02\x01\x71\x02",         // two leaves
		"\x70\x03\x70\x04\x71\x02\x01", // a tally ahead
		"\x70\x03\x71\x02\x01\x71\x02\x01",
		"\x70\x03\x71\x02\x01\x70\x03\x71\x02\x01",
		"\x00\x70\x03\x71\x02\x01", "\x70\x03\x00\x71\x02\x01", "\x70\x03\x71\x02\x01\x00",
		"\x00\x00\x00\x00\x00", "\xff\xff\xff\xff\xff",
	} {
		none(t, []byte(b))
	}
	none(t, nil)
	if n, exit, is := stub.Read(nil); n != 0 || exit != 0 || is {
		t.Errorf("Read of no list: %d, %d, %v", n, exit, is)
	}
	none(t, make([]byte, 70000))
	none(t, bytes.Repeat(stubs(3, 258), 1000))
}

func TestP19_3OneTooFewOneTooMany(t *testing.T) {
	for _, x := range [][2]int{{0, 0}, {3, 258}, {255, 65535}, {0x70, 0x7071}, {0x71, 0x7170}} {
		b := stubs(x[0], x[1])
		for n := range 5 {
			none(t, b[:n]) // what is missing stands in the spare room
			none(t, bytes.Clone(b[:n]))
			none(t, b[n+1:])
		}
		for more := range 256 {
			none(t, append(bytes.Clone(b), byte(more)))
			none(t, append([]byte{byte(more)}, b...))
		}
		room := append(bytes.Clone(b), 0x71, 1, 2)
		if !told(t, room[:5]) {
			t.Fatalf("% x is no stub, with room behind it", b)
		}
	}
}

func TestP19_3EachByteTurned(t *testing.T) {
	for _, x := range [][2]int{{0, 0}, {3, 258}, {255, 65535}, {0x70, 0x7071}} {
		for k := range 5 {
			for one := range 256 {
				b := stubs(x[0], x[1])
				same := int(b[k]) == one
				b[k] = byte(one)
				if is := told(t, b); is != (same || k != 0 && k != 2) {
					t.Fatalf("Read(% x): %v", b, is)
				}
			}
		}
	}
}

// TestP19_3OtherInstructions are all rows of a host's operations that have five
// bytes together: of these one alone is a stub's.
func TestP19_3OtherInstructions(t *testing.T) {
	count, found := 0, 0
	var grow func(b []byte)
	grow = func(b []byte) {
		if len(b) == 5 {
			count++
			if told(t, b) {
				found++
			}
			return
		}
		for op := range 256 {
			size := isa.Size(uint8(op), true)
			if size > 0 && len(b)+size <= 5 {
				row := append(bytes.Clone(b), byte(op))
				grow(append(row, make([]byte, size-1)...))
			}
		}
	}
	grow(nil)
	if count < 1000 || found != 1 {
		t.Errorf("%d of %d rows are stubs, want 1", found, count)
	}
}

func TestP19_3DrawnBytes(t *testing.T) {
	r := rand.New(rand.NewSource(193))
	heads := []byte{0x70, 0x71, 0x40, 0x6f, 0x72, 0xf0, 0x00}
	found := 0
	for range 200000 {
		b := make([]byte, r.Intn(8), 8)
		r.Read(b[:8])
		for _, k := range []int{0, 2} {
			if k < len(b) {
				b[k] = heads[r.Intn(len(heads))]
			}
		}
		if told(t, b) {
			found++
		}
	}
	if found == 0 {
		t.Error("no stub was drawn")
	}
}

func TestP19_4WhatIsMadeIsRead(t *testing.T) {
	back := func(n, exit int) {
		t.Helper()
		if gotN, gotExit, is := stub.Read(made(t, n, exit)); gotN != n || gotExit != exit || !is {
			t.Fatalf("Stub(%d, %d) reads as %d, %d, %v", n, exit, gotN, gotExit, is)
		}
	}
	for n := range 256 {
		for exit := 0; exit < 65536; exit += 251 {
			back(n, exit)
		}
		back(n, 65535)
	}
	for exit := range 65536 {
		back(exit%256, exit)
		back(255-exit/256, exit)
	}
}

// TestP19_4AsLong also holds the bytes against package isa: a stub is a tally
// and a leave, for hosts alone, and a jump has the leave's room.
func TestP19_4AsLong(t *testing.T) {
	if stub.Size != 5 {
		t.Errorf("Size is %d", stub.Size)
	}
	for _, n := range []int{0, 3, 255} {
		for _, exit := range []int{0, 258, 65535} {
			b := made(t, n, exit)
			tally, ahead, e := isa.Decode(b, true)
			if tally != (api.Ins{Op: api.OTally, Imm: int32(n)}) || e != api.OK {
				t.Fatalf("% x begins with %+v, %d", b, tally, int(e))
			}
			leave, behind, e := isa.Decode(b[ahead:], true)
			if leave != (api.Ins{Op: api.OLeave, Imm: int32(exit)}) || e != api.OK {
				t.Fatalf("% x ends with %+v, %d", b, leave, int(e))
			}
			if len(b) != stub.Size || ahead+behind != stub.Size {
				t.Fatalf("% x has %d bytes and %d", b, ahead, behind)
			}
			for _, to := range []int{0, 20, 32767} {
				if jump := led(t, 10, to); len(jump) != behind {
					t.Fatalf("% x in the place of % x", jump, b[ahead:])
				}
			}
			if _, _, e := isa.Decode(b, false); e != api.ErrDecode {
				t.Fatalf("% x is a guest's: %d", b, int(e))
			}
		}
	}
}

// TestR3AnswersShareNothing: what is written into an answer, and behind it,
// turns up in no other one.
func TestR3AnswersShareNothing(t *testing.T) {
	for range 3 {
		for _, b := range [][]byte{made(t, 3, 258), led(t, 10, 20)} {
			whole := b[:cap(b)]
			for k := range whole {
				whole[k] ^= 0xff
			}
		}
	}
}
