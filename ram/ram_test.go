package ram_test

import (
	"bytes"
	"fmt"
	"math"
	"math/rand"
	"slices"
	"testing"

	"mummer/api"
	"mummer/ram"
)

// cells is the test's own reading of the chapter: a memory is a row of cells,
// one for each address; a window has the very cells of what it is onto.
type cells []*uint8

func newCells(frames int) cells {
	c := make(cells, 64*frames)
	for a := range c {
		c[a] = new(uint8)
	}
	return c
}

func (c cells) byteAt(a uint64) (uint8, bool) {
	if a >= uint64(len(c)) {
		return 0, false
	}
	return *c[a], true
}

func (c cells) wordAt(a uint64) (uint32, bool) {
	if a%4 != 0 || a+3 >= uint64(len(c)) {
		return 0, false
	}
	return uint32(*c[a]) + 1<<8*uint32(*c[a+1]) + 1<<16*uint32(*c[a+2]) + 1<<24*uint32(*c[a+3]), true
}

// fill is what the other calls that lay something come to, too.
func (c cells) fill(a uint64, b ...uint8) bool {
	if a+uint64(len(b)) > uint64(len(c)) {
		return false
	}
	for k, v := range b {
		*c[a+uint64(k)] = v
	}
	return true
}

func (c cells) setWord(a uint64, w uint32) bool {
	return a%4 == 0 && c.fill(a, uint8(w), uint8(w>>8), uint8(w>>16), uint8(w>>24))
}

func (c cells) frame(n int) []byte {
	if n < 0 || n >= len(c)/64 {
		return nil
	}
	var b []byte
	for _, cell := range c[64*n : 64*n+64] {
		b = append(b, *cell)
	}
	return b
}

func (c cells) copied() cells {
	other := newCells(len(c) / 64)
	for a := range c {
		*other[a] = *c[a]
	}
	return other
}

// window is nil where the list may not be.
func (c cells) window(list []int) cells {
	var w cells
	for k, n := range list {
		if n < 0 || n >= len(c)/64 || slices.Contains(list[:k], n) {
			return nil
		}
		w = append(w, c[64*n:64*n+64]...)
	}
	return w
}

// faults says in what a memory differs from its cells, by every call that
// reads; empty: in nothing.
func (c cells) faults(r *ram.RAM) string {
	if r.Size() != uint32(len(c)) {
		return fmt.Sprintf("Size is %d, want %d", r.Size(), len(c))
	}
	for _, a := range addresses(len(c)) {
		b, is := r.Byte(a)
		if want, wantIs := c.byteAt(uint64(a)); b != want || is != wantIs {
			return fmt.Sprintf("Byte(%d) is %d, %t, want %d, %t", a, b, is, want, wantIs)
		}
		w, is := r.Word(a)
		if want, wantIs := c.wordAt(uint64(a)); w != want || is != wantIs {
			return fmt.Sprintf("Word(%d) is %#x, %t, want %#x, %t", a, w, is, want, wantIs)
		}
	}
	for n := -1; n <= len(c)/64; n++ {
		if b := r.Frame(n); !bytes.Equal(b, c.frame(n)) {
			return fmt.Sprintf("Frame(%d) is % x, want % x", n, b, c.frame(n))
		}
	}
	return ""
}

func (c cells) hold(t *testing.T, r *ram.RAM) {
	t.Helper()
	if fault := c.faults(r); fault != "" {
		t.Fatal(fault)
	}
}

// addresses are all of a memory of that size, some just behind it, some far
// beyond, and those from which four bytes come round to 0.
func addresses(size int) []uint32 {
	all := make([]uint32, 0, size+40)
	for a := range uint32(size + 10) {
		all = append(all, a)
	}
	for _, far := range []uint32{65536, 1 << 24, 1<<31 - 4, 1 << 31, 1<<31 + 4} {
		all = append(all, far, far+uint32(size), far-uint32(size))
	}
	for a := uint32(math.MaxUint32 - 9); a != 0; a++ {
		all = append(all, a)
	}
	return append(all, -uint32(size))
}

// made is a memory whose bytes are told apart, beside its cells.
func made(t *testing.T, frames int) (*ram.RAM, cells) {
	t.Helper()
	r, e := ram.New(frames)
	if r == nil || e != api.OK {
		t.Fatalf("New(%d): %d", frames, int(e))
	}
	c := newCells(frames)
	for a := range c {
		*c[a] = told(a)
		if !r.SetByte(uint32(a), told(a)) {
			t.Fatalf("SetByte(%d) is false", a)
		}
	}
	return r, c
}

// told is never 0, so that none of these bytes can be taken for one that was
// never laid.
func told(a int) uint8 { return uint8(a%251 + 1) }

func window(t *testing.T, r *ram.RAM, list ...int) *ram.RAM {
	t.Helper()
	w, e := r.Window(list)
	if w == nil || e != api.OK {
		t.Fatalf("Window(%v): %d", list, int(e))
	}
	return w
}

func TestP5_1New(t *testing.T) {
	for _, frames := range []int{1, 2, 3, 16, 63, 64, 65, 511, 512} {
		r, e := ram.New(frames)
		if r == nil || e != api.OK {
			t.Fatalf("New(%d): %d", frames, int(e))
		}
		newCells(frames).hold(t, r)
	}
}

func TestP5_1EverySize(t *testing.T) {
	for frames := -3; frames <= 600; frames++ {
		r, e := ram.New(frames)
		if frames < 1 || frames > 512 {
			if r != nil || e != api.ErrArg {
				t.Errorf("New(%d) = %v, %d, want nil, ErrArg", frames, r, int(e))
			}
		} else if r == nil || e != api.OK || r.Size() != uint32(64*frames) {
			t.Errorf("New(%d): %d, Size %d", frames, int(e), r.Size())
		}
	}
}

func TestP5_1Refused(t *testing.T) {
	for _, frames := range []int{0, -1, -64, -512, 513, 1024, math.MinInt32, math.MaxInt32, math.MinInt, math.MaxInt, math.MinInt + 1, math.MaxInt/64 + 2} {
		if r, e := ram.New(frames); r != nil || e != api.ErrArg {
			t.Errorf("New(%d) = %v, %d, want nil, ErrArg", frames, r, int(e))
		}
	}
}

func TestP5_1Apart(t *testing.T) {
	r, c := made(t, 2)
	other, _ := ram.New(2)
	newCells(2).hold(t, other)
	other.Fill(0, bytes.Repeat([]byte{255}, 128))
	c.hold(t, r)
}

func TestP5_2Bytes(t *testing.T) {
	for _, frames := range []int{1, 3, 512} {
		r, c := made(t, frames)
		c.hold(t, r)
		for _, a := range addresses(len(c)) {
			b := uint8(a*7 + 3)
			if is, want := r.SetByte(a, b), c.fill(uint64(a), b); is != want {
				t.Fatalf("of %d frames SetByte(%d) is %t, want %t", frames, a, is, want)
			}
		}
		c.hold(t, r)
	}
}

func TestP5_2Words(t *testing.T) {
	for _, frames := range []int{1, 3, 512} {
		r, c := made(t, frames)
		for _, a := range addresses(len(c)) {
			w := a*0x01030507 + 0x89abcdef
			if is, want := r.SetWord(a, w), c.setWord(uint64(a), w); is != want {
				t.Fatalf("of %d frames SetWord(%d) is %t, want %t", frames, a, is, want)
			}
		}
		c.hold(t, r)
	}
}

func TestP5_2Refused(t *testing.T) {
	rows := []struct {
		a                uint32
		mayByte, mayWord bool
	}{
		{0, true, true}, {1, true, false}, {2, true, false}, {3, true, false}, {4, true, true},
		{60, true, true}, {61, true, false}, {63, true, false}, {64, true, true},
		{124, true, true}, {125, true, false}, {127, true, false},
		{128, false, false}, {129, false, false}, {132, false, false}, {4096, false, false},
		{1 << 31, false, false}, {math.MaxUint32 - 3, false, false}, {math.MaxUint32, false, false},
	}
	for _, row := range rows {
		r, c := made(t, 2)
		if is := r.SetByte(row.a, 0); is != row.mayByte {
			t.Errorf("SetByte(%d) is %t", row.a, is)
		} else if !is {
			c.hold(t, r)
		}
		r, c = made(t, 2)
		if is := r.SetWord(row.a, 0); is != row.mayWord {
			t.Errorf("SetWord(%d) is %t", row.a, is)
		} else if !is {
			c.hold(t, r)
		}
	}
}

func TestP5_2LowestByteFirst(t *testing.T) {
	r, _ := ram.New(2)
	if !r.SetWord(60, 0xf1e2d3c4) || !r.Fill(64, []byte{0x78, 0x56, 0x34, 0x92}) {
		t.Fatal("refused")
	}
	if got := r.Frame(0)[60:]; !bytes.Equal(got, []byte{0xc4, 0xd3, 0xe2, 0xf1}) {
		t.Errorf("% x", got)
	}
	if w, is := r.Word(64); w != 0x92345678 || !is {
		t.Errorf("%#x, %t", w, is)
	}
}

func TestP5_3FillEveryLength(t *testing.T) {
	for _, frames := range []int{1, 2, 3} {
		for length := range 64*frames + 3 {
			b := make([]byte, length)
			for k := range b {
				b[k] = uint8(255 - k)
			}
			r, c := made(t, frames)
			for _, a := range addresses(len(c)) {
				if is, want := r.Fill(a, b), c.fill(uint64(a), b...); is != want {
					t.Fatalf("of %d frames Fill(%d, %d bytes) is %t, want %t", frames, a, length, is, want)
				}
			}
			c.hold(t, r)
		}
	}
}

func TestP5_3FillRows(t *testing.T) {
	rows := []struct {
		a      uint32
		length int
		want   bool
	}{
		{0, 128, true}, {0, 129, false}, {1, 127, true}, {1, 128, false},
		{127, 1, true}, {127, 2, false}, {128, 1, false}, {60, 8, true}, {63, 65, true}, {63, 66, false},
		{0, 0, true}, {64, 0, true}, {127, 0, true}, {128, 0, true}, {129, 0, false},
		{math.MaxUint32, 0, false}, {math.MaxUint32, 1, false}, {math.MaxUint32, 2, false},
		{math.MaxUint32 - 3, 4, false}, {math.MaxUint32 - 3, 5, false}, {1 << 31, 0, false}, {0, 100000, false},
	}
	for _, row := range rows {
		b := bytes.Repeat([]byte{0}, row.length)
		r, c := made(t, 2)
		is := r.Fill(row.a, b)
		c.fill(uint64(row.a), b...)
		if is != row.want {
			t.Errorf("Fill(%d, %d bytes) is %t", row.a, row.length, is)
		}
		c.hold(t, r)
	}
}

func TestP5_3FillOfTheGreatest(t *testing.T) {
	r, _ := ram.New(512)
	whole := make([]byte, 512*64)
	for k := range whole {
		whole[k] = told(k)
	}
	if !r.Fill(0, whole) || r.Fill(0, append(whole, 1)) || r.Fill(1, whole) || !r.Fill(512*64, nil) || r.Fill(512*64+1, nil) {
		t.Error("bounds")
	}
	for n := range 512 {
		if !bytes.Equal(r.Frame(n), whole[64*n:64*n+64]) {
			t.Fatalf("Frame(%d) is % x", n, r.Frame(n))
		}
	}
}

func TestP5_3FillLeavesTheList(t *testing.T) {
	r, c := made(t, 2)
	row := bytes.Repeat([]byte{77}, 90)
	for _, a := range []uint32{0, 50, 128, 200} {
		fits := r.Fill(a, row[:10])
		if want := c.fill(uint64(a), row[:10]...); fits != want {
			t.Fatalf("Fill(%d) is %t", a, fits)
		}
		r.SetByte(3, 9)
		c.fill(3, 9)
		if !bytes.Equal(row, bytes.Repeat([]byte{77}, 90)) {
			t.Fatalf("the list is % x", row)
		}
	}
	for k := range row {
		row[k] = 78
	}
	c.hold(t, r)
}

func TestP5_3Frame(t *testing.T) {
	for _, frames := range []int{1, 3, 512} {
		r, c := made(t, frames)
		for n := range frames {
			if b := r.Frame(n); len(b) != 64 || !bytes.Equal(b, c.frame(n)) {
				t.Fatalf("Frame(%d) is % x", n, b)
			}
		}
		for _, n := range []int{-1, -64, frames, frames + 1, 64 * frames, 513, math.MinInt32, math.MaxInt32, math.MinInt, math.MaxInt, math.MinInt / 64} {
			if b := r.Frame(n); len(b) != 0 {
				t.Errorf("of %d frames Frame(%d) is % x", frames, n, b)
			}
		}
	}
}

func TestP5_3FrameSharesNothing(t *testing.T) {
	r, c := made(t, 2)
	first, again := r.Frame(0), r.Frame(0)
	for k := range first {
		first[k] = 0
	}
	_ = append(first, 1, 2, 3, 4)
	c.hold(t, r)
	if !bytes.Equal(again, c.frame(0)) {
		t.Error("two answers share memory")
	}
	r.Fill(0, bytes.Repeat([]byte{200}, 64))
	if !bytes.Equal(again, c.frame(0)) {
		t.Error("an answer shares memory with its RAM")
	}
}

func TestP5_3Copy(t *testing.T) {
	for _, frames := range []int{1, 3, 512} {
		r, c := made(t, frames)
		other := r.Copy()
		otherCells := c.copied()
		otherCells.hold(t, other)
		for _, a := range []uint32{0, 64*uint32(frames) - 1, 33} {
			r.SetByte(a, 0)
			c.fill(uint64(a), 0)
			other.SetByte(a, 255)
			otherCells.fill(uint64(a), 255)
		}
		r.Fill(0, bytes.Repeat([]byte{5}, 40))
		c.fill(0, bytes.Repeat([]byte{5}, 40)...)
		other.SetWord(60, 0x01020304)
		otherCells.setWord(60, 0x01020304)
		c.hold(t, r)
		otherCells.hold(t, other)
	}
}

func TestP5_3CopyOfAWindow(t *testing.T) {
	r, c := made(t, 4)
	w := window(t, r, 3, 1)
	other := w.Copy()
	otherCells := c.window([]int{3, 1}).copied()
	otherCells.hold(t, other)
	other.Fill(0, make([]byte, 128))
	c.hold(t, r)
	other = w.Copy()
	r.Fill(0, make([]byte, 256))
	otherCells.hold(t, other)
}

// notMade are memories that no call made.
func notMade() map[string]*ram.RAM {
	return map[string]*ram.RAM{"nil": nil, "a literal": {}, "new": new(ram.RAM)}
}

func TestP5_4Reads(t *testing.T) {
	for name, r := range notMade() {
		cells(nil).hold(t, r)
		if r.Size() != 0 || r.Copy() != nil {
			t.Errorf("%s: Size %d, Copy %v", name, r.Size(), r.Copy())
		}
		for _, n := range []int{math.MinInt, -1, 0, 1, math.MaxInt} {
			if b := r.Frame(n); len(b) != 0 {
				t.Errorf("%s: Frame(%d) is % x", name, n, b)
			}
		}
	}
}

func TestP5_4Lays(t *testing.T) {
	for name, r := range notMade() {
		for _, a := range addresses(64) {
			if r.SetByte(a, 1) || r.SetWord(a, 1) || r.Fill(a, []byte{1}) || r.Fill(a, make([]byte, 64)) {
				t.Errorf("%s: something was laid at %d", name, a)
			}
			if r.Fill(a, nil) != (a == 0) || r.Fill(a, []byte{}) != (a == 0) {
				t.Errorf("%s: Fill(%d, none) is %t", name, a, r.Fill(a, nil))
			}
		}
		cells(nil).hold(t, r)
	}
}

func TestP5_4Windows(t *testing.T) {
	for name, r := range notMade() {
		for _, list := range [][]int{nil, {}, {0}, {0, 0}, {-1}, {math.MaxInt}, make([]int, 513)} {
			if w, e := r.Window(list); w != nil || e != api.ErrNil {
				t.Errorf("%s: Window of %d numbers = %v, %d, want nil, ErrNil", name, len(list), w, int(e))
			}
		}
	}
}

// beside is memories, each with its cells, that are turned alike.
type beside struct {
	rams   []*ram.RAM
	cells  []cells
	strewn *rand.Rand
}

func (s *beside) add(r *ram.RAM, c cells) {
	s.rams, s.cells = append(s.rams, r), append(s.cells, c)
}

// address is within that many bytes as a rule, now and then outside.
func (s *beside) address(size int) uint32 {
	if s.strewn.Intn(8) == 0 {
		outside := addresses(size)[size:]
		return outside[s.strewn.Intn(len(outside))]
	}
	return uint32(s.strewn.Intn(size))
}

// turn does one thing to one of the memories and to its cells, and says where
// the answers differ.
func (s *beside) turn() string {
	k := s.strewn.Intn(len(s.rams))
	r, c := s.rams[k], s.cells[k]
	a, v := s.address(len(c)), s.strewn.Uint32()
	var is, want bool
	switch s.strewn.Intn(3) {
	case 0:
		is, want = r.SetByte(a, uint8(v)), c.fill(uint64(a), uint8(v))
	case 1:
		if s.strewn.Intn(4) > 0 {
			a -= a % 4
		}
		is, want = r.SetWord(a, v), c.setWord(uint64(a), v)
	case 2:
		b := make([]byte, s.strewn.Intn(100))
		s.strewn.Read(b)
		is, want = r.Fill(a, b), c.fill(uint64(a), b...)
	}
	if is != want {
		return fmt.Sprintf("of memory %d at %d: %t, want %t", k, a, is, want)
	}
	for k, r := range s.rams {
		if fault := s.cells[k].faults(r); fault != "" {
			return fmt.Sprintf("of memory %d: %s", k, fault)
		}
	}
	return ""
}

func TestP5_5WhatWasLaidIsRead(t *testing.T) {
	s := beside{strewn: rand.New(rand.NewSource(5))}
	r, c := made(t, 5)
	s.add(r, c)
	s.add(r.Copy(), c.copied())
	for _, list := range [][]int{{2}, {4, 0, 3}, {0, 1, 2, 3, 4}, {3, 1}} {
		s.add(window(t, r, list...), c.window(list))
	}
	inner := window(t, window(t, r, 4, 0, 3), 2, 0)
	s.add(inner, c.window([]int{4, 0, 3}).window([]int{2, 0}))
	s.add(inner.Copy(), c.window([]int{3, 4}).copied())
	for n := range 3000 {
		if fault := s.turn(); fault != "" {
			t.Fatalf("turn %d: %s", n, fault)
		}
	}
}

func TestP5_5EachByteByItself(t *testing.T) {
	for a := range 192 {
		r, _ := ram.New(3)
		c := newCells(3)
		r.SetByte(uint32(a), 170)
		c.fill(uint64(a), 170)
		c.hold(t, r)
		r.SetByte(uint32(a), 85)
		c.fill(uint64(a), 85)
		c.hold(t, r)
	}
}

func TestP5_6Windows(t *testing.T) {
	most := make([]int, 512)
	for n := range most {
		most[n] = (n*5 + 3) % 512
	}
	rows := []struct {
		frames int
		list   []int
	}{
		{1, []int{0}}, {2, []int{0}}, {2, []int{1}}, {2, []int{0, 1}}, {2, []int{1, 0}},
		{5, []int{4}}, {5, []int{3, 0, 4}}, {5, []int{4, 3, 2, 1, 0}}, {512, []int{511}}, {512, []int{511, 0, 256}}, {512, most},
	}
	for _, row := range rows {
		r, c := made(t, row.frames)
		w := window(t, r, row.list...)
		wc := c.window(row.list)
		wc.hold(t, w)
		last := uint32(len(wc) - 4)
		if !w.SetByte(1, 0) || !w.SetWord(last, 0xdeadbeef) || w.SetWord(last+4, 1) || w.SetByte(last+4, 1) {
			t.Fatalf("of %d frames, Window(%v): bounds", row.frames, row.list)
		}
		wc.fill(1, 0)
		wc.setWord(uint64(last), 0xdeadbeef)
		wc.hold(t, w)
		c.hold(t, r)
		r.Fill(0, make([]byte, 40))
		c.fill(0, make([]byte, 40)...)
		wc.hold(t, w)
		c.hold(t, r)
	}
}

func TestP5_6FillOverFramesThatLieApart(t *testing.T) {
	r, _ := ram.New(5)
	w := window(t, r, 3, 0, 4)
	b := make([]byte, 192)
	for k := range b {
		b[k] = told(k)
	}
	if !w.Fill(0, b) || w.Fill(1, b) || !w.Fill(192, nil) || w.Fill(193, nil) {
		t.Fatal("bounds")
	}
	for n, want := range [][]byte{b[64:128], make([]byte, 64), make([]byte, 64), b[:64], b[128:]} {
		if got := r.Frame(n); !bytes.Equal(got, want) {
			t.Errorf("Frame(%d) is % x", n, got)
		}
	}
}

func TestP5_6WindowOfAWindow(t *testing.T) {
	r, c := made(t, 6)
	outer := window(t, r, 5, 2, 0, 3)
	inner := window(t, outer, 3, 1)
	innermost := window(t, inner, 1)
	c.window([]int{3, 2}).hold(t, inner)
	c.window([]int{2}).hold(t, innermost)
	innermost.SetByte(7, 0)
	c.fill(2*64+7, 0)
	r.SetWord(3*64, 0)
	c.setWord(3*64, 0)
	outer.SetByte(3*64+9, 200)
	c.fill(3*64+9, 200)
	c.hold(t, r)
	c.window([]int{5, 2, 0, 3}).hold(t, outer)
	c.window([]int{3, 2}).hold(t, inner)
	c.window([]int{2}).hold(t, innermost)
	for _, n := range []int{2, 3, 5, -1} {
		if w, e := inner.Window([]int{n}); w != nil || e != api.ErrArg {
			t.Errorf("frame %d of a window of two frames: %v, %d", n, w, int(e))
		}
	}
}

func TestP5_6TwoWindows(t *testing.T) {
	r, c := made(t, 4)
	one, two := window(t, r, 1, 2), window(t, r, 2, 3)
	one.SetByte(64, 0)
	if b, _ := two.Byte(0); b != 0 {
		t.Error("a frame of both is not one")
	}
	one.SetByte(0, 0)
	c.fill(128, 0)
	c.fill(64, 0)
	c.window([]int{1, 2}).hold(t, one)
	c.window([]int{2, 3}).hold(t, two)
	c.hold(t, r)
}

func TestP5_6Refused(t *testing.T) {
	long := make([]int, 513)
	for n := range long {
		long[n] = n
	}
	rows := []struct {
		frames int
		list   []int
	}{
		{3, nil}, {3, []int{}}, {3, []int{0, 0}}, {3, []int{2, 1, 2}}, {3, []int{0, 1, 2, 0}}, {3, []int{1, 1, 1, 1}},
		{3, []int{3}}, {3, []int{-1}}, {3, []int{0, 1, 2, 3}}, {3, []int{0, -1}}, {3, []int{4, 0}}, {3, []int{511}}, {3, []int{512}},
		{3, []int{math.MinInt}}, {3, []int{math.MaxInt}}, {3, []int{math.MaxInt32}}, {1, []int{1}}, {1, []int{64}},
		{512, []int{512}}, {512, []int{511, 511}}, {512, long}, {512, append(slices.Clone(long[:512]), 0)}, {512, make([]int, 100000)},
	}
	for _, row := range rows {
		r, c := made(t, row.frames)
		if w, e := r.Window(row.list); w != nil || e != api.ErrArg {
			t.Errorf("of %d frames, a window of %d numbers: %v, %d, want nil, ErrArg", row.frames, len(row.list), w, int(e))
		}
		c.hold(t, r)
	}
}

func TestP5_6LeavesTheList(t *testing.T) {
	r, c := made(t, 5)
	row := []int{3, 1, 4, 9, 9}
	w := window(t, r, row[:3]...)
	again, e := w.Window(row[1:2])
	if e != api.OK || !slices.Equal(row, []int{3, 1, 4, 9, 9}) {
		t.Fatalf("%d, the list is %v", int(e), row)
	}
	for k := range row {
		row[k] = 0
	}
	c.window([]int{3, 1, 4}).hold(t, w)
	c.window([]int{1}).hold(t, again)
}

func TestExamples(t *testing.T) {
	if r, e := ram.New(0); r != nil || e != api.ErrArg {
		t.Errorf("New(0) = %v, %d", r, int(e))
	}
	r, _ := ram.New(1)
	if r.Size() != 64 {
		t.Errorf("New(1).Size() is %d", r.Size())
	}
	if !r.SetWord(4, 0x01020304) {
		t.Error("SetWord(4) is false")
	}
	for a, want := range map[uint32]uint8{4: 4, 5: 3, 6: 2, 7: 1} {
		if b, is := r.Byte(a); b != want || !is {
			t.Errorf("Byte(%d) is %d, %t", a, b, is)
		}
	}
	if r.SetWord(62, 1) {
		t.Error("SetWord(62) is true")
	}
	if w, is := r.Word(64); w != 0 || is {
		t.Errorf("Word(64) is %d, %t", w, is)
	}
	if b, is := r.Byte(63); b != 0 || !is {
		t.Errorf("Byte(63) is %d, %t", b, is)
	}
	if r.Fill(63, []byte{1, 2}) || !r.Fill(64, nil) {
		t.Error("Fill(63, two bytes), Fill(64, none)")
	}
}
