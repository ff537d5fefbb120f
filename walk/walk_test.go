package walk_test

import (
	"bytes"
	"fmt"
	"math"
	"math/rand"
	"testing"

	"mummer/api"
	"mummer/ram"
	"mummer/walk"
)

// words are laid in a memory by their addresses.
type words map[uint32]uint32

func memory(t *testing.T, frames int, laid words) *ram.RAM {
	t.Helper()
	r, e := ram.New(frames)
	if e != api.OK {
		t.Fatalf("New(%d): %d", frames, int(e))
	}
	for a, w := range laid {
		lay(t, r, a, w)
	}
	return r
}

func lay(t *testing.T, r *ram.RAM, a, w uint32) {
	t.Helper()
	if !r.SetWord(a, w) {
		t.Fatalf("no word at %d", a)
	}
}

func window(t *testing.T, r *ram.RAM, list ...int) *ram.RAM {
	t.Helper()
	w, e := r.Window(list)
	if e != api.OK {
		t.Fatalf("Window(%v): %d", list, int(e))
	}
	return w
}

// row is all of a memory's bytes.
func row(r *ram.RAM) []byte {
	var all []byte
	for n := range int(r.Size() / 64) {
		all = append(all, r.Frame(n)...)
	}
	return all
}

// none are the memories that have no byte.
func none() map[string]*ram.RAM {
	return map[string]*ram.RAM{"a nil RAM": nil, "a RAM that no call made": {}}
}

// reading is the test's own reading of P6.1: by divisions of numbers of 64
// bits, of which what is above 32 bits is taken off, over a row of bytes.
func reading(mem []byte, root uint32, dirs int, va uint32) (api.Way, bool) {
	above := int64(va) / 1024
	if above >= int64(dirs) {
		return api.Way{}, false
	}
	dirAt := (int64(root)/64*64 + above*4) % (1 << 32)
	dir, is := wordOf(mem, dirAt)
	if !is || !has(dir, 0) {
		return api.Way{}, false
	}
	tableAt := (dir/64*64 + int64(va)/64%16*4) % (1 << 32)
	table, is := wordOf(mem, tableAt)
	if !is || !has(table, 0) {
		return api.Way{}, false
	}
	at := table/64*64 + int64(va)%64
	if at >= int64(len(mem)) {
		return api.Way{}, false
	}
	w := api.Way{At: uint32(at), Entry: uint32(tableAt), Dir: int(dirAt / 64), Table: int(tableAt / 64), Page: int(at / 64)}
	w.Bits = 1
	if has(dir, 1) && has(table, 1) {
		w.Bits += 2
	}
	if has(dir, 2) && has(table, 2) {
		w.Bits += 4
	}
	if has(dir, 3) || has(table, 3) {
		w.Bits += 8
	}
	if has(table, 4) {
		w.Bits += 16
	}
	return w, true
}

func wordOf(mem []byte, a int64) (int64, bool) {
	if a%4 != 0 || a+4 > int64(len(mem)) {
		return 0, false
	}
	return int64(mem[a]) + int64(mem[a+1])<<8 + int64(mem[a+2])<<16 + int64(mem[a+3])<<24, true
}

func has(w int64, bit int) bool { return w>>bit%2 == 1 }

// let is the test's own reading of P6.2: each reason to refuse, one by one.
func let(bits uint32, kind int, user bool) bool {
	there, write, forUser, code := bits&1 != 0, bits&2 != 0, bits&4 != 0, bits&8 != 0
	if kind != 1 && kind != 2 && kind != 3 {
		return false
	}
	if !there || user && !forUser {
		return false
	}
	if kind == 3 && !write {
		return false
	}
	return kind == 1 || !code
}

// leads is the test's own reading of P6.3.
func leads(mem []byte, root uint32, dirs int, ps, va uint32, kind int) (uint32, bool) {
	if ps&4 == 0 {
		if int64(va) < int64(len(mem)) && 1 <= kind && kind <= 3 {
			return va, true
		}
		return 0, false
	}
	w, is := reading(mem, root, dirs, va)
	if !is || !let(w.Bits, kind, ps&1 != 0) {
		return 0, false
	}
	return w.At, true
}

// looks holds what Look answers against what is wanted: the zero way, where an
// address leads nowhere.
func looks(t *testing.T, r *ram.RAM, root uint32, dirs int, va uint32, want api.Way) {
	t.Helper()
	w, is := walk.Look(r, root, dirs, va)
	if w != want || is != (want != api.Way{}) {
		t.Errorf("Look(%#x, %d, %#x) = %+v, %t, want %+v", root, dirs, va, w, is, want)
	}
}

var otherKinds = []int{0, -1, -2, -3, 4, 5, 6, 7, 8, 257, 258, 259, math.MinInt, math.MinInt + 1, math.MaxInt, math.MinInt32, math.MaxInt32, 1<<32 + 1, 1<<32 + 2, 1<<32 + 3}

func TestP6_1Root(t *testing.T) {
	r := memory(t, 6, words{128: 192 + 3, 192 + 8: 256 + 3, 64: 192 + 3, 192 + 12: 320 + 3})
	want := api.Way{Bits: 3, At: 256 + 9, Entry: 200, Dir: 2, Table: 3, Page: 4}
	for low := range uint32(64) {
		looks(t, r, 128+low, 16, 128+9, want)
		looks(t, r, 64+low, 16, 192, api.Way{Bits: 3, At: 320, Entry: 204, Dir: 1, Table: 3, Page: 5})
		looks(t, r, low, 16, 128+9, api.Way{})
		looks(t, r, 192+low, 16, 128+9, api.Way{})
		looks(t, r, 384+low, 16, 128+9, api.Way{})
	}
}

// lastRow is a memory in which a directory of 64 entries, from 0 on, leads to
// one table, whose last page is frame 5.
func lastRow(t *testing.T) *ram.RAM {
	laid := words{256 + 60: 320 + 7}
	for n := range uint32(64) {
		laid[4*n] = 256 + 7
	}
	return memory(t, 6, laid)
}

func TestP6_1Dirs(t *testing.T) {
	r := lastRow(t)
	const greatest = 1<<22 - 1
	for _, dirs := range []int{math.MinInt, math.MinInt32, -1 << 32, -17, -16, -1, 0, 1, 2, 15, 16, 17, 31, 32, 33, 63, 64, 65, greatest, greatest + 1, math.MaxInt32, 1 << 32, math.MaxInt} {
		for _, above := range []int{0, 1, 14, 15, 16, 17, 30, 31, 32, 33, 62, 63, 64, dirs - 2, dirs - 1, dirs, dirs + 1, greatest - 1, greatest} {
			if above < 0 || above > greatest {
				continue
			}
			want := api.Way{}
			if above < dirs && above < 64 {
				want = api.Way{Bits: 7, At: 320 + 11, Entry: 316, Dir: above / 16, Table: 4, Page: 5}
			}
			looks(t, r, 0, dirs, uint32(above)*1024+960+11, want)
		}
	}
}

func TestP6_1PartAboveIsNotLost(t *testing.T) {
	// What counts above 16384 is no further address of the first space.
	r := memory(t, 3, words{0: 64 + 7, 64: 128 + 7})
	looks(t, r, 0, 16, 0, api.Way{Bits: 7, At: 128, Entry: 64, Dir: 0, Table: 1, Page: 2})
	for _, va := range []uint32{16384, 2 * 16384, 1 << 20, 1 << 22, 1 << 26, 1 << 31, 1<<31 + 16384} {
		looks(t, r, 0, 16, va, api.Way{})
		looks(t, r, 0, math.MaxInt, va, api.Way{})
	}
}

func TestP6_1EveryPick(t *testing.T) {
	// A directory's n-th entry leads to table n, whose m-th entry leads to one of three pages: each address its own way.
	laid := words{}
	for n := range uint32(16) {
		laid[4*n] = 64*(n+1) + 3
		for m := range uint32(16) {
			laid[64*(n+1)+4*m] = 64*(17+(n+m)%3) + 5
		}
	}
	r := memory(t, 20, laid)
	for va := range uint32(16384) {
		n, m := va/1024, va/64%16
		page := 17 + (n+m)%3
		looks(t, r, 0, 16, va, api.Way{Bits: 1, At: 64*page + va%64, Entry: 64*(n+1) + 4*m, Dir: 0, Table: int(n + 1), Page: int(page)})
	}
}

func TestP6_1NotThere(t *testing.T) {
	whole := api.Way{Bits: 7, At: 128 + 33, Entry: 64 + 20, Dir: 0, Table: 1, Page: 2}
	rows := []struct {
		what       string
		dir, table uint32
		want       api.Way
	}{
		{"both there", 64 + 7, 128 + 7, whole},
		{"no directory's entry", 0, 128 + 7, api.Way{}},
		{"no EThere in the directory's", 64 + 62, 128 + 7, api.Way{}},
		{"no table's entry", 64 + 7, 0, api.Way{}},
		{"no EThere in the table's", 64 + 7, 128 + 62, api.Way{}},
		{"no EThere in both", 64 + 62, 128 + 62, api.Way{}},
		{"the table past the end", 256 + 7, 128 + 7, api.Way{}},
		{"the table far beyond", 1<<31 + 64 + 7, 128 + 7, api.Way{}},
		{"the table in the last frame of all", math.MaxUint32, 128 + 7, api.Way{}},
		{"the page past the end", 64 + 7, 256 + 7, api.Way{}},
		{"the page far beyond", 64 + 7, 1<<31 + 128 + 7, api.Way{}},
		{"the page in the last frame of all", 64 + 7, math.MaxUint32, api.Way{}},
		{"the page in the memory's last frame", 64 + 7, 192 + 7, api.Way{Bits: 7, At: 192 + 33, Entry: 84, Dir: 0, Table: 1, Page: 3}},
	}
	for _, x := range rows {
		r := memory(t, 4, words{8: x.dir, 64 + 20: x.table})
		if w, is := walk.Look(r, 0, 16, 2*1024+5*64+33); w != x.want || is != (x.want != api.Way{}) {
			t.Errorf("%s: %+v, %t", x.what, w, is)
		}
	}
}

func TestP6_1RootOutside(t *testing.T) {
	r := memory(t, 4, words{0: 64 + 7, 64: 128 + 7, 192 + 60: 64 + 7})
	for _, root := range []uint32{256, 256 + 63, 320, 1 << 16, 1 << 31, math.MaxUint32 - 63, math.MaxUint32} {
		looks(t, r, root, 16, 0, api.Way{})
		looks(t, r, root, math.MaxInt, 0, api.Way{})
	}
	// The directory begins in the last frame, and has more entries than fit in there.
	looks(t, r, 192, 32, 15*1024, api.Way{Bits: 7, At: 128, Entry: 64, Dir: 3, Table: 1, Page: 2})
	looks(t, r, 192, 32, 16*1024, api.Way{})
	looks(t, r, 192, 32, 31*1024, api.Way{})
}

func TestP6_1SumsOf32Bits(t *testing.T) {
	r := memory(t, 4, words{0: 64 + 7, 60: 64 + 5, 64: 128 + 7, 68: 192 + 7, 124: 192 + 23})
	way := api.Way{Bits: 7, At: 128 + 5, Entry: 64, Dir: 0, Table: 1, Page: 2}
	for _, low := range []uint32{0, 1, 63} {
		// In the last frame of all lie the entries 0 to 15; the next one lies at 0.
		looks(t, r, 0xffffffc0+low, 32, 15*1024+5, api.Way{})
		looks(t, r, 0xffffffc0+low, 32, 16*1024+5, way)
		looks(t, r, 0xffffffc0+low, 32, 31*1024+64+63, api.Way{Bits: 5, At: 192 + 63, Entry: 68, Dir: 0, Table: 1, Page: 3})
		looks(t, r, 0xffffffc0+low, 16, 16*1024+5, api.Way{})
		looks(t, r, 0xffffff80+low, 32, 31*1024+5, api.Way{})
		looks(t, r, 0xffffff80+low, 33, 32*1024+5, way)
	}
	// The greatest address of all: its directory's entry lies at 60.
	root := uint32(1<<32 + 60 - 4*(1<<22-1))
	looks(t, r, root, 1<<22, math.MaxUint32, api.Way{Bits: 21, At: 192 + 63, Entry: 124, Dir: 0, Table: 1, Page: 3})
	looks(t, r, root, math.MaxInt, math.MaxUint32, api.Way{Bits: 21, At: 192 + 63, Entry: 124, Dir: 0, Table: 1, Page: 3})
	looks(t, r, root, 1<<22-1, math.MaxUint32, api.Way{})
}

func TestP6_1BitsOneByOne(t *testing.T) {
	rows := []struct {
		bit                    uint32
		inDir, inBoth, inTable bool // whether the way has it, if the directory's entry alone has it, both, the table's alone
	}{
		{api.EWrite, false, true, false},
		{api.EUser, false, true, false},
		{api.ECode, true, true, true},
		{api.EDirty, false, true, true},
		{32, false, false, false},
	}
	for _, x := range rows {
		for _, y := range []struct {
			dir, table uint32
			want       bool
		}{{0, 0, false}, {x.bit, 0, x.inDir}, {x.bit, x.bit, x.inBoth}, {0, x.bit, x.inTable}} {
			want := api.Way{Bits: 1, At: 128, Entry: 64, Dir: 0, Table: 1, Page: 2}
			if y.want {
				want.Bits += x.bit
			}
			r := memory(t, 3, words{0: 64 + 1 + y.dir, 64: 128 + 1 + y.table})
			looks(t, r, 0, 16, 0, want)
		}
	}
}

func TestP6_1BitsTogether(t *testing.T) {
	r := memory(t, 3, nil)
	for dir := range uint32(64) {
		for table := range uint32(64) {
			lay(t, r, 0, 64+dir)
			lay(t, r, 64, 128+table)
			want, _ := reading(row(r), 0, 16, 17)
			looks(t, r, 0, 16, 17, want)
		}
	}
}

func TestP6_1Frames(t *testing.T) {
	rows := []struct {
		what     string
		laid     words
		root, va uint32
		want     api.Way
	}{
		{"three frames", words{64: 128 + 7, 128: 192 + 7}, 64, 9, api.Way{Bits: 7, At: 201, Entry: 128, Dir: 1, Table: 2, Page: 3}},
		{"three frames, falling", words{192: 128 + 7, 128: 0 + 7}, 192, 9, api.Way{Bits: 7, At: 9, Entry: 128, Dir: 3, Table: 2, Page: 0}},
		{"the directory is the table", words{64: 64 + 7, 72: 192 + 3}, 64, 128 + 9, api.Way{Bits: 3, At: 201, Entry: 72, Dir: 1, Table: 1, Page: 3}},
		{"the table is the page", words{64: 128 + 7, 128 + 8: 128 + 3}, 64, 128 + 9, api.Way{Bits: 3, At: 137, Entry: 136, Dir: 1, Table: 2, Page: 2}},
		{"the directory is the page", words{64: 128 + 7, 128 + 8: 64 + 3}, 64, 128 + 9, api.Way{Bits: 3, At: 73, Entry: 136, Dir: 1, Table: 2, Page: 1}},
		{"all three are one", words{64: 64 + 7, 72: 64 + 3}, 64, 128 + 9, api.Way{Bits: 3, At: 73, Entry: 72, Dir: 1, Table: 1, Page: 1}},
		{"one entry for both", words{72: 64 + 23}, 64, 2*1024 + 128 + 9, api.Way{Bits: 23, At: 73, Entry: 72, Dir: 1, Table: 1, Page: 1}},
		{"the directory goes on in the next frame", words{128 + 4: 192 + 7, 192: 0 + 7}, 64, 17 * 1024, api.Way{Bits: 7, At: 0, Entry: 192, Dir: 2, Table: 3, Page: 0}},
	}
	for _, x := range rows {
		t.Run(x.what, func(t *testing.T) {
			looks(t, memory(t, 4, x.laid), x.root, 32, x.va, x.want)
		})
	}
}

func TestP6_1OverAWindow(t *testing.T) {
	great := memory(t, 9, nil)
	r := window(t, great, 7, 2, 5, 0)
	// What is said of frames is said of the window's own.
	lay(t, great, 7*64, 64+7)
	lay(t, great, 2*64+4, 128+7)
	lay(t, great, 2*64+8, 192+3)
	lay(t, great, 2*64+12, 256+7)
	looks(t, r, 0, 16, 64+3, api.Way{Bits: 7, At: 131, Entry: 68, Dir: 0, Table: 1, Page: 2})
	looks(t, r, 0, 16, 128+63, api.Way{Bits: 3, At: 255, Entry: 72, Dir: 0, Table: 1, Page: 3})
	looks(t, r, 0, 16, 192, api.Way{})
	looks(t, great, 0, 16, 64+3, api.Way{})
	if !walk.Soil(r, 68) {
		t.Error("Soil is false")
	}
	if w, _ := great.Word(2*64 + 4); w != 128+23 {
		t.Errorf("%d", w)
	}
	looks(t, r, 0, 16, 64+3, api.Way{Bits: 23, At: 131, Entry: 68, Dir: 0, Table: 1, Page: 2})
}

func TestP6_1TheGreatestMemory(t *testing.T) {
	const last = 511 * 64
	r := memory(t, 512, words{last + 4: last + 7, last + 60: last + 15})
	looks(t, r, last, 32, 1024+960+63, api.Way{Bits: 15, At: last + 63, Entry: last + 60, Dir: 511, Table: 511, Page: 511})
	lay(t, r, last+60, 512*64+15)
	looks(t, r, last, 32, 1024+960, api.Way{})
}

func TestP6_1NoMemory(t *testing.T) {
	for what, r := range none() {
		for _, va := range []uint32{0, 65, 1024, math.MaxUint32} {
			for _, dirs := range []int{math.MinInt, 0, 16, 32, math.MaxInt} {
				for _, root := range []uint32{0, 64, math.MaxUint32} {
					if w, is := walk.Look(r, root, dirs, va); is || (w != api.Way{}) {
						t.Errorf("of %s: %+v, %t", what, w, is)
					}
				}
			}
		}
	}
}

// strewn is a memory of entries most of which are there and lead to somewhere
// within it, and of some of which nothing is known.
func strewn(t *testing.T, x *rand.Rand, frames int) *ram.RAM {
	r := memory(t, frames, nil)
	for a := uint32(0); a < r.Size(); a += 4 {
		w := x.Uint32()
		if x.Intn(12) != 0 {
			w = uint32(x.Intn(frames+1))*64 + w%64
		}
		if x.Intn(4) != 0 {
			w |= api.EThere
		}
		lay(t, r, a, w)
	}
	return r
}

// somewhere is a root, a number of entries and an address, such as lead
// somewhere as often as not.
func somewhere(x *rand.Rand, frames int) (uint32, int, uint32) {
	root := uint32(x.Intn(64*frames + 64))
	if x.Intn(6) == 0 {
		root = -uint32(x.Intn(4 * 64))
	}
	dirs := []int{16, 32, 32, 64, 1, 0, -1, math.MaxInt}[x.Intn(8)]
	va := uint32(x.Intn(40 * 1024))
	switch x.Intn(6) {
	case 0:
		va = x.Uint32()
	case 1, 2:
		va = uint32(x.Intn(64*frames + 64))
	}
	return root, dirs, va
}

func TestP6_1AsRead(t *testing.T) {
	x := rand.New(rand.NewSource(61))
	found := 0
	for range 300 {
		frames := 1 + x.Intn(9)
		r := strewn(t, x, frames)
		mem := row(r)
		for range 300 {
			root, dirs, va := somewhere(x, frames)
			want, is := reading(mem, root, dirs, va)
			looks(t, r, root, dirs, va, want)
			if is {
				found++
			}
		}
		if !bytes.Equal(row(r), mem) {
			t.Fatal("Look has changed the memory")
		}
	}
	if found < 9000 {
		t.Errorf("only %d ways were found", found)
	}
}

func TestP6_2Rows(t *testing.T) {
	const all = api.EThere | api.EWrite | api.EUser
	rows := []struct {
		bits              uint32
		kind              int
		inSystem, inUsers bool
	}{
		{all, api.Fetch, true, true}, {all, api.Read, true, true}, {all, api.Write, true, true},
		{api.EThere, api.Fetch, true, false}, {api.EThere, api.Read, true, false}, {api.EThere, api.Write, false, false},
		{api.EThere | api.EUser, api.Fetch, true, true}, {api.EThere | api.EUser, api.Read, true, true}, {api.EThere | api.EUser, api.Write, false, false},
		{api.EThere | api.EWrite, api.Write, true, false}, {api.EThere | api.EWrite, api.Fetch, true, false},
		{all | api.ECode, api.Fetch, true, true}, {all | api.ECode, api.Read, false, false}, {all | api.ECode, api.Write, false, false},
		{all | api.EDirty, api.Write, true, true}, {all &^ api.EThere, api.Fetch, false, false},
		{all &^ api.EThere, api.Read, false, false}, {all &^ api.EThere, api.Write, false, false}, {0, api.Fetch, false, false},
	}
	for _, x := range rows {
		if is := walk.May(x.bits, x.kind, false); is != x.inSystem {
			t.Errorf("May(%d, %d, false) is %t", x.bits, x.kind, is)
		}
		if is := walk.May(x.bits, x.kind, true); is != x.inUsers {
			t.Errorf("May(%d, %d, true) is %t", x.bits, x.kind, is)
		}
	}
}

func TestP6_2EveryBit(t *testing.T) {
	for low := range uint32(64) {
		// What stands above in an entry counts for nothing.
		for _, high := range []uint32{0, 64, 1 << 31, math.MaxUint32 &^ 63} {
			for kind := -20; kind <= 20; kind++ {
				for _, user := range []bool{false, true} {
					bits := high | low
					if is, want := walk.May(bits, kind, user), let(bits, kind, user); is != want {
						t.Errorf("May(%#x, %d, %t) is %t", bits, kind, user, is)
					}
				}
			}
		}
	}
}

func TestP6_2OtherKinds(t *testing.T) {
	for _, kind := range otherKinds {
		for bits := range uint32(64) {
			if walk.May(bits, kind, false) || walk.May(bits, kind, true) || walk.May(bits|0xffffffc0, kind, true) {
				t.Errorf("May(%d, %d) is true", bits, kind)
			}
		}
	}
}

func TestP6_3WithoutPaging(t *testing.T) {
	// The tables that stand there, and that lead nowhere from 0, count for nothing.
	for _, frames := range []int{1, 4, 512} {
		r := memory(t, frames, words{0: 8})
		size := r.Size()
		for _, ps := range []uint32{0, api.PUser, api.PInt, api.PUser | api.FMask, math.MaxUint32 &^ api.PPage} {
			for _, dirs := range []int{math.MinInt, 0, 16, math.MaxInt} {
				for _, kind := range []int{api.Fetch, api.Read, api.Write} {
					for _, va := range []uint32{0, 1, 2, 63, size - 4, size - 1} {
						if a, is := walk.To(r, 4096, dirs, ps, va, kind); a != va || !is {
							t.Errorf("of %d frames To(ps %#x, %d, %d) = %d, %t", frames, ps, va, kind, a, is)
						}
					}
					for _, va := range []uint32{size, size + 1, size + 64, 1 << 31, math.MaxUint32} {
						if a, is := walk.To(r, 4096, dirs, ps, va, kind); a != 0 || is {
							t.Errorf("of %d frames To(ps %#x, %d, %d) = %d, %t", frames, ps, va, kind, a, is)
						}
					}
				}
			}
		}
	}
}

func TestP6_3WithPaging(t *testing.T) {
	for low := range uint32(64) {
		r := memory(t, 4, words{0: 64 + 7, 4: 64 + 3, 64: 128 + low, 124: 192 + low})
		for _, x := range []struct{ va, at, through uint32 }{
			{63, 128 + 63, 7}, {960, 192, 7}, {1023, 255, 7}, {1024, 128, 3}, {2047, 255, 3},
		} {
			way := low & (x.through | api.ECode)
			for _, ps := range []uint32{api.PPage, api.PPage | api.PUser, math.MaxUint32, math.MaxUint32 &^ api.PUser, api.PPage | api.PInt, api.PPage | api.FMask | api.PUser} {
				for kind := -2; kind <= 6; kind++ {
					want, wantIs := uint32(0), let(way, kind, ps%2 == 1)
					if wantIs {
						want = x.at
					}
					if a, is := walk.To(r, 0, 16, ps, x.va, kind); a != want || is != wantIs {
						t.Errorf("bits %d: To(ps %#x, %d, %d) = %d, %t", low, ps, x.va, kind, a, is)
					}
				}
			}
		}
	}
}

func TestP6_3LedOut(t *testing.T) {
	// A page within the memory, one past its end, and addresses past the directory, by a directory in frame 1.
	r := memory(t, 4, words{64: 128 + 7, 128: 192 + 7, 132: 256 + 7, 136: 128 + 6})
	for _, ps := range []uint32{api.PPage, api.PPage | api.PUser} {
		for _, kind := range []int{api.Fetch, api.Read, api.Write} {
			if a, is := walk.To(r, 64+63, 1, ps, 63, kind); a != 255 || !is {
				t.Errorf("To(63) = %d, %t", a, is)
			}
			for _, va := range []uint32{64, 127, 128, 192, 255, 256, 1024, 16384, math.MaxUint32} {
				if a, is := walk.To(r, 64, 16, ps, va, kind); a != 0 || is {
					t.Errorf("To(%d) = %d, %t", va, a, is)
				}
			}
			for _, dirs := range []int{0, -1, math.MinInt} {
				if a, is := walk.To(r, 64, dirs, ps, 63, kind); a != 0 || is {
					t.Errorf("of %d entries To(63) = %d, %t", dirs, a, is)
				}
			}
			if a, is := walk.To(r, 0, 16, ps, 63, kind); a != 0 || is {
				t.Errorf("by another directory To(63) = %d, %t", a, is)
			}
		}
	}
}

func TestP6_3OtherKinds(t *testing.T) {
	r := memory(t, 4, words{0: 64 + 7, 64: 128 + 7})
	for _, kind := range otherKinds {
		for _, ps := range []uint32{0, api.PUser, api.PPage, api.PPage | api.PUser} {
			for _, va := range []uint32{0, 63, 256} {
				if a, is := walk.To(r, 0, 16, ps, va, kind); a != 0 || is {
					t.Errorf("To(ps %d, %d, %d) = %d, %t", ps, va, kind, a, is)
				}
			}
		}
	}
}

func TestP6_3NoMemory(t *testing.T) {
	for what, r := range none() {
		for _, ps := range []uint32{0, api.PUser, api.PPage, api.PPage | api.PUser, math.MaxUint32} {
			for kind := -1; kind <= 5; kind++ {
				for _, va := range []uint32{0, 64, 16384, math.MaxUint32} {
					if a, is := walk.To(r, 0, 16, ps, va, kind); a != 0 || is {
						t.Errorf("of %s To(ps %d, %d, %d) = %d, %t", what, ps, va, kind, a, is)
					}
				}
			}
		}
	}
}

func TestP6_3AsRead(t *testing.T) {
	x := rand.New(rand.NewSource(63))
	found := 0
	for range 200 {
		frames := 1 + x.Intn(9)
		r := strewn(t, x, frames)
		mem := row(r)
		for range 400 {
			root, dirs, va := somewhere(x, frames)
			ps, kind := x.Uint32(), x.Intn(5)
			want, wantIs := leads(mem, root, dirs, ps, va, kind)
			if a, is := walk.To(r, root, dirs, ps, va, kind); a != want || is != wantIs {
				t.Errorf("To(%#x, %d, ps %#x, %#x, %d) = %d, %t, want %d, %t", root, dirs, ps, va, kind, a, is, want, wantIs)
			}
			if wantIs {
				found++
			}
		}
		if !bytes.Equal(row(r), mem) {
			t.Fatal("To has changed the memory")
		}
	}
	if found < 2000 {
		t.Errorf("only %d accesses led somewhere", found)
	}
}

func TestP6_4Soil(t *testing.T) {
	x := rand.New(rand.NewSource(64))
	r := strewn(t, x, 3)
	for _, fresh := range []bool{false, true} {
		for a := uint32(0); a < r.Size(); a += 4 {
			before := row(r)
			was, _ := r.Word(a)
			if fresh {
				was &^= api.EDirty
				lay(t, r, a, was)
				before = row(r)
			}
			if is := walk.Soil(r, a); is != (was&api.EDirty == 0) {
				t.Fatalf("Soil(%d) of %#x is %t", a, was, is)
			}
			// EDirty stands in a word's first byte; no other bit of all may have turned.
			before[a] |= 16
			if !bytes.Equal(row(r), before) {
				t.Fatalf("Soil(%d) has changed more", a)
			}
			if walk.Soil(r, a) || !bytes.Equal(row(r), before) {
				t.Fatalf("Soil(%d) for the second time", a)
			}
		}
	}
}

func TestP6_4EntriesThatAreNone(t *testing.T) {
	// A word is soiled whatever it says: also without EThere.
	r := memory(t, 1, words{4: math.MaxUint32 &^ api.EDirty})
	if !walk.Soil(r, 0) || !walk.Soil(r, 4) || !walk.Soil(r, 60) {
		t.Error("Soil is false")
	}
	for a, want := range (words{0: 16, 4: math.MaxUint32, 60: 16}) {
		if w, _ := r.Word(a); w != want {
			t.Errorf("%#x at %d", w, a)
		}
	}
}

func TestP6_4NoWord(t *testing.T) {
	for _, frames := range []int{1, 3} {
		r := memory(t, frames, nil)
		size, before := r.Size(), row(r)
		nowhere := []uint32{size, size + 1, size + 4, size + 64, 1 << 31, math.MaxUint32 - 3, math.MaxUint32, -size}
		for a := range size {
			if a%4 != 0 {
				nowhere = append(nowhere, a)
			}
		}
		for _, a := range nowhere {
			if walk.Soil(r, a) || !bytes.Equal(row(r), before) {
				t.Errorf("of %d frames Soil(%d)", frames, a)
			}
		}
	}
	for what, r := range none() {
		for _, a := range []uint32{0, 4, 5, 64, math.MaxUint32} {
			if walk.Soil(r, a) {
				t.Errorf("of %s Soil(%d) is true", what, a)
			}
		}
	}
}

// ways are those by which the pages of a memory are found from a root.
func ways(r *ram.RAM, root uint32, dirs int) map[uint32]api.Way {
	found := map[uint32]api.Way{}
	for va := uint32(0); va < uint32(dirs)*1024; va += 64 {
		if w, is := walk.Look(r, root, dirs, va); is {
			found[va] = w
		}
	}
	return found
}

func TestP6_5OnePage(t *testing.T) {
	x := rand.New(rand.NewSource(65))
	for range 20 {
		r := strewn(t, x, 8)
		for page := uint32(0); page < 32*1024; page += 64 {
			first, is := walk.Look(r, 64, 32, page)
			if is && (first.At%64 != 0 || int(first.At/64) != first.Page) {
				t.Fatalf("Look(%d) = %+v", page, first)
			}
			for place := range uint32(64) {
				want := first
				if is {
					want.At += place
				}
				looks(t, r, 64, 32, page+place, want)
			}
		}
	}
}

func TestP6_5OtherFrames(t *testing.T) {
	x := rand.New(rand.NewSource(66))
	seen := 0
	for range 60 {
		r := strewn(t, x, 8)
		for va := uint32(0); va < 32*1024; va += 64 {
			w, is := walk.Look(r, 0, 32, va)
			if !is {
				continue
			}
			other := r.Copy()
			for n := range 8 {
				if n != w.Dir && n != w.Table {
					noise := make([]byte, 64)
					x.Read(noise)
					other.Fill(uint32(64*n), noise)
				}
			}
			looks(t, other, 0, 32, va, w)
			seen++
		}
	}
	if seen < 1000 {
		t.Errorf("only %d ways were found", seen)
	}
}

func TestP6_5Soiled(t *testing.T) {
	x := rand.New(rand.NewSource(67))
	for range 12 {
		r := strewn(t, x, 4)
		before := ways(r, 0, 32)
		for a := uint32(0); a < r.Size(); a += 4 {
			walk.Soil(r, a)
			after := ways(r, 0, 32)
			if len(after) != len(before) {
				t.Fatalf("Soil(%d): %d ways, and %d ahead of it", a, len(after), len(before))
			}
			for va, w := range before {
				if w.Entry == a {
					w.Bits |= api.EDirty
				}
				if after[va] != w {
					t.Fatalf("Soil(%d): %d leads %+v, want %+v", a, va, after[va], w)
				}
			}
			before = after
		}
	}
}

func TestExamples(t *testing.T) {
	r := memory(t, 4, words{0: 64 + 7, 64 + 4: 128 + 5})
	looks(t, r, 0, 16, 65, api.Way{Bits: api.EThere | api.EUser, At: 129, Entry: 68, Dir: 0, Table: 1, Page: 2})
	for _, va := range []uint32{0, 1024, 16384} {
		looks(t, r, 0, 16, va, api.Way{})
	}
	rows := []struct {
		ps   uint32
		kind int
		want string
	}{
		{api.PPage, api.Write, "0 false"}, {api.PPage | api.PUser, api.Read, "129 true"}, {0, api.Write, "65 true"},
	}
	for _, x := range rows {
		a, is := walk.To(r, 0, 16, x.ps, 65, x.kind)
		if got := fmt.Sprint(a, is); got != x.want {
			t.Errorf("To(ps %d, 65, %d) = %s, want %s", x.ps, x.kind, got, x.want)
		}
	}
}
