package shadow_test

import (
	"bytes"
	"maps"
	"math"
	"slices"
	"testing"

	"mummer/api"
	"mummer/pool"
	"mummer/ram"
	"mummer/shadow"
	"mummer/walk"
)

const end = 32 * 1024 // of the addresses that a directory reaches

// rig is a shadow, and what it was made of.
type rig struct {
	r   *ram.RAM
	p   *pool.Pool
	s   *shadow.Shadow
	dir int
}

// place is where a page leads.
type place struct {
	frame int
	bits  uint32
}

// dirty is a memory full of words that lead to frames of it, so that one that
// should have been wiped shows in a walk.
func dirty(t *testing.T, frames int) *ram.RAM {
	t.Helper()
	r, e := ram.New(frames)
	if e != api.OK {
		t.Fatalf("ram.New(%d): %d", frames, int(e))
	}
	for a := uint32(0); a < r.Size(); a += 4 {
		r.SetWord(a, a*64%r.Size()+7)
	}
	return r
}

func lender(t *testing.T, first, n int) *pool.Pool {
	t.Helper()
	p, e := pool.New(first, n)
	if e != api.OK {
		t.Fatalf("pool.New(%d, %d): %d", first, n, int(e))
	}
	return p
}

func of(t *testing.T, r *ram.RAM, dir int, p *pool.Pool) *rig {
	t.Helper()
	s, e := shadow.New(r, dir, p)
	if s == nil || e != api.OK {
		t.Fatalf("New(%d frames, %d) = %v, %d, want a shadow, 0", r.Size()/64, dir, s != nil, int(e))
	}
	return &rig{r, p, s, dir}
}

// rigged is a shadow in a dirty memory, with a pool of n frames from first on.
func rigged(t *testing.T, frames, dir, first, n int) *rig {
	t.Helper()
	return of(t, dirty(t, frames), dir, lender(t, first, n))
}

// row is all of a memory's bytes.
func row(r *ram.RAM) []byte {
	var all []byte
	for n := range int(r.Size() / 64) {
		all = append(all, r.Frame(n)...)
	}
	return all
}

func word(t *testing.T, r *ram.RAM, a uint32) uint32 {
	t.Helper()
	w, is := r.Word(a)
	if !is {
		t.Fatalf("no word at %d", a)
	}
	return w
}

// directory is the words of the shadow's directory.
func (g *rig) directory(t *testing.T) []uint32 {
	t.Helper()
	var list []uint32
	for k := range 32 {
		list = append(list, word(t, g.r, uint32(g.dir*64+4*k)))
	}
	return list
}

// walked is where all pages of a shadow lead, as a walk says of each; of every
// page its first address, its last and one between are asked.
func (g *rig) walked(t *testing.T) map[uint32]place {
	t.Helper()
	all := map[uint32]place{}
	for va := uint32(0); va < end+2048; va += 64 {
		w, is := walk.Look(g.r, g.s.Root(), 32, va)
		for _, in := range []uint32{7, 63} {
			if x, also := walk.Look(g.r, g.s.Root(), 32, va+in); also != is || is && x.At != w.At+in {
				t.Fatalf("%d and %d lead to %d, %t and %d, %t", va, va+in, w.At, is, x.At, also)
			}
		}
		if is {
			all[va] = place{w.Page, w.Bits}
		}
	}
	return all
}

// leads asks that just these pages lead, and Pages tells of just these.
func (g *rig) leads(t *testing.T, want map[uint32]place) {
	t.Helper()
	if got := g.walked(t); !maps.Equal(got, want) {
		t.Fatalf("the pages lead to %v, want %v", got, want)
	}
	g.lists(t, slices.Sorted(maps.Keys(want))...)
}

func (g *rig) lists(t *testing.T, want ...uint32) {
	t.Helper()
	if l := g.s.Pages(); !slices.Equal(l, want) {
		t.Fatalf("Pages = %v, want %v", l, want)
	}
}

func (g *rig) puts(t *testing.T, va uint32, frame int, bits uint32) {
	t.Helper()
	if !g.s.Put(va, frame, bits) {
		t.Fatalf("Put(%d, %d, %#x) = false", va, frame, bits)
	}
}

// idle asks that what f does is false, and turns nothing: no byte, no page, no
// frame of the pool.
func (g *rig) idle(t *testing.T, what string, f func() bool) {
	t.Helper()
	was, pages, tables, left := row(g.r), g.s.Pages(), g.s.Tables(), g.p.Left()
	if f() {
		t.Fatalf("%s is true", what)
	}
	if !bytes.Equal(row(g.r), was) || !slices.Equal(g.s.Pages(), pages) {
		t.Fatalf("%s, which is false, turns the memory, or what leads", what)
	}
	if g.s.Tables() != tables || g.p.Left() != left {
		t.Fatalf("%s, which is false: %d tables, %d frames left, want %d, %d", what, g.s.Tables(), g.p.Left(), tables, left)
	}
}

func (g *rig) noPut(t *testing.T, va uint32, frame int, bits uint32) {
	t.Helper()
	g.idle(t, "a Put", func() bool { return g.s.Put(va, frame, bits) })
}

// noPutNoTake asks for a Put that is refused whatever the pool lends: it is not
// to be asked for anything.
func (g *rig) noPutNoTake(t *testing.T, va uint32, frame int, bits uint32) {
	t.Helper()
	took, failed := g.p.Counts()
	g.noPut(t, va, frame, bits)
	if a, b := g.p.Counts(); a != took || b != failed {
		t.Fatalf("Put(%d, %d): the pool was asked, though it may not be anyway", va, frame)
	}
}

func (g *rig) ups(t *testing.T, words ...uint32) {
	t.Helper()
	if !g.s.Upper(words) {
		t.Fatalf("Upper(%v) = false", words)
	}
}

func (g *rig) noUp(t *testing.T, words ...uint32) {
	t.Helper()
	g.idle(t, "an Upper", func() bool { return g.s.Upper(words) })
}

// above asks that the directory's upper half is these words, and 0 behind them.
func (g *rig) above(t *testing.T, words ...uint32) {
	t.Helper()
	want := append(slices.Clone(words), make([]uint32, 16-len(words))...)
	if l := g.directory(t)[16:]; !slices.Equal(l, want) {
		t.Fatalf("the upper half is %v, want %v", l, want)
	}
}

// counted asks how many tables there are, and how many frames the pool has left.
func (g *rig) counted(t *testing.T, tables, left int) {
	t.Helper()
	if n, l := g.s.Tables(), g.p.Left(); n != tables || l != left {
		t.Fatalf("%d tables, %d frames left, want %d, %d", n, l, tables, left)
	}
}

// tabled asks that just the tables of these addresses are there.
func (g *rig) tabled(t *testing.T, of ...uint32) {
	t.Helper()
	for k := uint32(0); k < 40; k++ {
		want := slices.ContainsFunc(of, func(va uint32) bool { return va/1024 == k })
		for _, va := range []uint32{k * 1024, k*1024 + 1, k*1024 + 511, k*1024 + 1023} {
			if is := g.s.Has(va); is != want {
				t.Fatalf("Has(%d) = %t, want %t", va, is, want)
			}
		}
	}
	if n := g.s.Tables(); n != len(of) {
		t.Fatalf("Tables = %d, want %d", n, len(of))
	}
}

// beyond are addresses that no directory reaches.
var beyond = []uint32{end, end + 1, end + 63, end + 64, end + 1024, 65536, 65536 + 1024, 1 << 20, 1<<31 - 1, 1 << 31, 1<<31 + 64, math.MaxUint32 - 1024, math.MaxUint32 - 63, math.MaxUint32}

// noFrames are numbers of no frame, where there are so many.
func noFrames(frames int) []int {
	return []int{math.MinInt, math.MinInt + 1, -1 << 58, -1<<58 + 1, -1 << 32, -1<<32 + 1, math.MinInt32, -1 << 26, -1<<26 + 1, -512, -frames, -2, -1, frames, frames + 1, 2 * frames, 512, 513, 1 << 26, 1<<26 + 1, math.MaxInt32, 1 << 32, 1<<32 + 1, 1 << 58, 1<<58 + 1, math.MaxInt - 1, math.MaxInt}
}

// unmade are the shadows that New did not make.
func unmade() map[string]*shadow.Shadow {
	return map[string]*shadow.Shadow{"a nil Shadow": nil, "a Shadow that New did not make": {}}
}

func refused(t *testing.T, r *ram.RAM, dir int, p *pool.Pool, want api.Errno) {
	t.Helper()
	was := row(r)
	if s, e := shadow.New(r, dir, p); s != nil || e != want {
		t.Errorf("New(%d bytes, %d, %t) = %v, %d, want nil, %d", r.Size(), dir, p != nil, s != nil, int(e), int(want))
	}
	if !bytes.Equal(row(r), was) {
		t.Errorf("New(%d bytes, %d), which is refused, turns the memory", len(was), dir)
	}
}

func TestP16_1NoMemoryNoPool(t *testing.T) {
	p := lender(t, 0, 3)
	// Of numbers that may not be, either: this is named first.
	for _, dir := range append(noFrames(4), 0, 1, 2, 3) {
		refused(t, nil, dir, p, api.ErrNil)
		refused(t, nil, dir, nil, api.ErrNil)
		refused(t, &ram.RAM{}, dir, p, api.ErrNil)
		refused(t, &ram.RAM{}, dir, nil, api.ErrNil)
		refused(t, dirty(t, 4), dir, nil, api.ErrNil)
		refused(t, dirty(t, 1), dir, nil, api.ErrNil)
	}
}

func TestP16_1EveryDirectory(t *testing.T) {
	for _, frames := range []int{1, 2, 3, 4, 10, 64, 511, api.MaxHost} {
		for dir := -3; dir <= frames+3; dir++ {
			r, p := dirty(t, frames), lender(t, 0, 2)
			if dir < 0 || frames < dir+2 {
				refused(t, r, dir, p, api.ErrArg)
				continue
			}
			want := row(r)
			clear(want[dir*64 : dir*64+128])
			g := of(t, r, dir, p)
			if a := g.s.Root(); a != uint32(dir*64) {
				t.Fatalf("Root = %d, want %d", a, dir*64)
			}
			if !bytes.Equal(row(r), want) {
				t.Fatalf("New(%d frames, %d): the memory is not as it was, but for the directory", frames, dir)
			}
			g.counted(t, 0, 2)
			if took, failed := p.Counts(); took+failed != 0 {
				t.Fatalf("New asks the pool: %d, %d", took, failed)
			}
		}
	}
}

func TestP16_1DirectoriesThatAreNotThere(t *testing.T) {
	for _, frames := range []int{1, 2, 5, api.MaxHost} {
		for _, dir := range append(noFrames(frames), frames-1) {
			if dir < 0 || dir > frames-2 {
				refused(t, dirty(t, frames), dir, lender(t, 0, 1), api.ErrArg)
			}
		}
	}
}

func TestP16_1NothingLeads(t *testing.T) {
	for _, dir := range []int{0, 3, 8} {
		g := rigged(t, 10, dir, 5, 2)
		g.leads(t, nil)
		g.tabled(t)
		g.above(t)
	}
}

func TestP16_1PoolsThatLendNothing(t *testing.T) {
	// A pool of no frames is there, and so is one that no call made.
	for name, p := range map[string]*pool.Pool{"of no frames": lender(t, 3, 0), "that New did not make": {}} {
		t.Run(name, func(t *testing.T) {
			g := of(t, dirty(t, 4), 1, p)
			for _, va := range []uint32{0, 64, 16384, end - 1} {
				g.noPut(t, va, 1, api.EWrite)
			}
			g.ups(t, 6, 8)
			g.s.Drop(0)
			g.s.Clear()
			g.leads(t, nil)
			g.above(t, 6, 8)
			g.tabled(t)
		})
	}
}

func TestP16_2EveryPage(t *testing.T) {
	g := rigged(t, 64, 5, 20, 40)
	want := map[uint32]place{}
	for va := uint32(0); va < end; va += 64 {
		// By any of the page's addresses.
		f := int(va / 64 % 64)
		if f >= 20 && f < 52 || f == 5 || f == 6 {
			f = 63
		}
		g.puts(t, va+va/64%64, f, api.EUser)
		want[va] = place{f, api.EThere | api.EUser}
		if l := g.s.Pages(); len(l) != len(want) || l[len(l)-1] != va {
			t.Fatalf("behind Put(%d): %d pages", va, len(l))
		}
	}
	g.leads(t, want)
	g.counted(t, 32, 8)
}

func TestP16_2EachPageAlone(t *testing.T) {
	for va := uint32(0); va < end; va += 64 {
		for _, in := range []uint32{0, 1, 63} {
			g := rigged(t, 6, 2, 4, 1)
			g.puts(t, va+in, 1, api.EWrite)
			g.leads(t, map[uint32]place{va: {1, api.EThere | api.EWrite}})
			g.tabled(t, va)
		}
	}
}

func TestP16_2TheWords(t *testing.T) {
	for _, va := range []uint32{0, 960, 1024 + 128, 16320, 16384, 20000, end - 1} {
		g := rigged(t, 9, 3, 7, 2)
		g.puts(t, va, 8, api.EWrite|api.ECode)
		dir := make([]uint32, 32)
		dir[va/1024] = 7*64 + 7
		if l := g.directory(t); !slices.Equal(l, dir) {
			t.Fatalf("Put(%d): the directory is %v, want %v", va, l, dir)
		}
		for k := range uint32(16) {
			want := uint32(0)
			if k == va/64%16 {
				want = 8*64 + 1 + 2 + 8
			}
			if w := word(t, g.r, 7*64+4*k); w != want {
				t.Fatalf("Put(%d): the table's word %d is %d, want %d", va, k, w, want)
			}
		}
	}
}

func TestP16_2Bits(t *testing.T) {
	g := rigged(t, 8, 0, 2, 2)
	for bits := range uint32(512) {
		for _, more := range []uint32{0, 1 << 16, 1 << 31, math.MaxUint32 &^ 511} {
			g.puts(t, 100, 7, bits|more)
			g.leads(t, map[uint32]place{64: {7, bits&15 | 1}})
			if w := word(t, g.r, 2*64+4); w != 7*64+bits&15|1 {
				t.Fatalf("Put of the bits %#x: the entry is %#x", bits|more, w)
			}
		}
	}
	g.counted(t, 1, 1)
}

func TestP16_2EveryFrame(t *testing.T) {
	for _, frames := range []int{3, 4, 64, api.MaxHost} {
		g := rigged(t, frames, 0, 2, 1)
		for f := range frames {
			g.puts(t, 1024*7, f, 0)
			if w, is := walk.Look(g.r, 0, 32, 1024*7+9); !is || w.Page != f || w.At != uint32(f*64+9) {
				t.Fatalf("it leads to %+v, %t, want the frame %d of %d", w, is, f, frames)
			}
		}
		for _, f := range noFrames(frames) {
			if f < 0 || f >= frames {
				g.noPutNoTake(t, 1024*7, f, 1)
				g.noPutNoTake(t, 64, f, 1)
			}
		}
		g.leads(t, map[uint32]place{1024 * 7: {frames - 1, 1}})
	}
}

func TestP16_2BeyondTheDirectory(t *testing.T) {
	g := rigged(t, 10, 0, 2, 8)
	g.puts(t, end-1, 1, 0)
	g.puts(t, 0, 1, 0)
	for _, va := range beyond {
		g.noPutNoTake(t, va, 1, api.EWrite)
		if g.s.Has(va) {
			t.Errorf("Has(%d) = true", va)
		}
	}
	g.leads(t, map[uint32]place{0: {1, 1}, end - 64: {1, 1}})
}

func TestP16_2AgainAndAgain(t *testing.T) {
	g := rigged(t, 10, 4, 6, 2)
	for k, x := range []place{{1, 3}, {2, 1}, {2, 9}, {0, 15}, {9, 5}, {9, 5}, {1, 3}} {
		g.puts(t, 65+uint32(k), x.frame, x.bits)
		g.leads(t, map[uint32]place{64: x})
		g.counted(t, 1, 1)
	}
	// What a host has soiled is clean behind a Put.
	w, _ := walk.Look(g.r, g.s.Root(), 32, 64)
	walk.Soil(g.r, w.Entry)
	g.leads(t, map[uint32]place{64: {1, 3 + api.EDirty}})
	g.puts(t, 64, 1, 3+api.EDirty)
	g.leads(t, map[uint32]place{64: {1, 3}})
}

func TestP16_2WhateverWasLaidOverIt(t *testing.T) {
	// What a Put says holds of the memory as it is now.
	g := rigged(t, 10, 4, 6, 2)
	for _, w := range []uint32{0, 9*64 + 7, math.MaxUint32} {
		for _, va := range []uint32{64, 20000} {
			g.puts(t, va, 1, 3)
			g.r.SetWord(4*64+va/1024*4, w)
			g.r.SetWord(6*64+4, w)
			g.puts(t, va, 2, 9)
			if x, is := walk.Look(g.r, 256, 32, va); !is || x.Page != 2 || x.Bits != 9 {
				t.Errorf("behind the word %d at the entry of %d it leads to %+v, %t", w, va, x, is)
			}
			g.r.SetWord(4*64+va/1024*4, w)
			g.s.Drop(va)
			if x, is := walk.Look(g.r, 256, 32, va); is {
				t.Errorf("behind the word %d at the entry of %d, and a Drop, it leads to %+v", w, va, x)
			}
		}
	}
}

func TestP16_2SoiledTables(t *testing.T) {
	// That a host soils a page turns none, and goes with it.
	g := rigged(t, 10, 4, 6, 2)
	g.puts(t, 0, 1, api.EWrite)
	g.puts(t, 64, 2, api.EWrite)
	walk.Soil(g.r, 6*64)
	g.lists(t, 0, 64)
	g.puts(t, 128, 3, api.EWrite)
	g.leads(t, map[uint32]place{0: {1, 3 + api.EDirty}, 64: {2, 3}, 128: {3, 3}})
	g.s.Drop(0)
	g.leads(t, map[uint32]place{64: {2, 3}, 128: {3, 3}})
}

func TestP16_2NewTablesAreAll0(t *testing.T) {
	g := rigged(t, 12, 0, 2, 3)
	for _, f := range []int{2, 3, 4} {
		g.puts(t, uint32(f)*1024, 11, 3)
	}
	g.leads(t, map[uint32]place{2048: {11, 3}, 3072: {11, 3}, 4096: {11, 3}})
	// Also where the frame was a table before.
	for k := range uint32(16) {
		g.puts(t, 2048+64*k, 11, 3)
	}
	g.s.Clear()
	g.puts(t, 7*1024+64, 10, 1)
	g.leads(t, map[uint32]place{7*1024 + 64: {10, 1}})
}

func TestP16_2NoFrameIsLent(t *testing.T) {
	g := rigged(t, 10, 4, 6, 2)
	g.puts(t, 0, 1, 3)
	g.puts(t, end-64, 2, 3)
	for k := uint32(1); k < 31; k++ {
		g.noPut(t, k*1024, 1, 3)
	}
	if took, failed := g.p.Counts(); took != 2 || failed != 30 {
		t.Errorf("the pool lent %d times, and did not %d times, want 2, 30", took, failed)
	}
	// Where tables are, pages are taken still, and nothing is lent for them.
	g.puts(t, 1023, 3, 3)
	g.puts(t, end-1024, 3, 3)
	g.leads(t, map[uint32]place{0: {1, 3}, 960: {3, 3}, end - 64: {2, 3}, end - 1024: {3, 3}})
	if took, failed := g.p.Counts(); took != 2 || failed != 30 {
		t.Errorf("the pool lent %d times, and did not %d times, want 2, 30", took, failed)
	}
	// A frame that others gave back in the meantime.
	g.s.Clear()
	f, _ := g.p.Take()
	g.puts(t, 64, 1, 3)
	g.noPut(t, 1024, 1, 3)
	g.p.Give(f)
	g.puts(t, 1024, 1, 3)
	g.leads(t, map[uint32]place{64: {1, 3}, 1024: {1, 3}})
}

func TestP16_2FramesThatAreNotTheMemorys(t *testing.T) {
	// The pool's frames 8 and up are none of the memory's.
	for _, first := range []int{6, 7, 8, 9, 100, 508} {
		g := rigged(t, 8, 0, first, 4)
		want := map[uint32]place{}
		for k := range uint32(4) {
			if va := k * 1024; first+int(k) < 8 {
				g.puts(t, va, 5, 3)
				want[va] = place{5, 3}
			} else {
				g.noPut(t, va, 5, 3)
			}
		}
		g.leads(t, want)
		g.counted(t, len(want), 4-len(want))
		g.s.Clear()
		g.counted(t, 0, 4)
		g.leads(t, nil)
	}
}

func TestP16_2TheUpperHalfIsTaken(t *testing.T) {
	g := rigged(t, 10, 4, 6, 4)
	g.puts(t, 16383, 1, 3)
	g.puts(t, 16384, 1, 3)
	g.s.Drop(16384)
	for _, words := range [][]uint32{{5*64 + 7}, {0}, {1, 2, 3}, make([]uint32, 16)} {
		g.ups(t, words...)
		for _, va := range []uint32{16384, 16385, 17408, 20000, end - 1024, end - 1} {
			g.noPutNoTake(t, va, 1, 3)
		}
		g.puts(t, 16383, 2, 3)
		g.puts(t, 0, 2, 3)
		g.above(t, words...)
	}
	// Where nothing is laid any more, it is free.
	g.ups(t)
	g.puts(t, 16384, 2, 9)
	g.puts(t, end-1, 2, 9)
	g.leads(t, map[uint32]place{0: {2, 3}, 16320: {2, 3}, 16384: {2, 9}, end - 64: {2, 9}})
}

func TestP16_3Drop(t *testing.T) {
	g := rigged(t, 10, 4, 6, 3)
	g.puts(t, 0, 1, 3)
	g.puts(t, 64, 2, 3)
	g.puts(t, 1024, 3, 3)
	g.puts(t, end-1, 3, 3)
	g.s.Drop(63)
	g.leads(t, map[uint32]place{64: {2, 3}, 1024: {3, 3}, end - 64: {3, 3}})
	g.s.Drop(end - 64)
	g.leads(t, map[uint32]place{64: {2, 3}, 1024: {3, 3}})
	g.s.Drop(0)
	g.s.Drop(1024 + 33)
	g.leads(t, map[uint32]place{64: {2, 3}})
	// Tables stay, also empty ones, and are taken again.
	g.tabled(t, 0, 1024, end-1024)
	g.counted(t, 3, 0)
	g.puts(t, 1024+64, 5, 1)
	g.puts(t, 63, 5, 1)
	g.leads(t, map[uint32]place{0: {5, 1}, 64: {2, 3}, 1024 + 64: {5, 1}})
}

func TestP16_3EachDrop(t *testing.T) {
	g := rigged(t, 40, 0, 2, 32)
	want := map[uint32]place{}
	for va := uint32(0); va < end; va += 64 {
		g.puts(t, va, 39, 3)
		want[va] = place{39, 3}
	}
	for k := range uint32(512) {
		// All of them, in an order of leaps.
		va := k * 117 % 512 * 64
		g.s.Drop(va + k%64)
		delete(want, va)
		if k%16 == 0 {
			g.leads(t, want)
		}
	}
	g.leads(t, nil)
	g.counted(t, 32, 0)
}

func TestP16_3DropOfWhatLeadsNowhere(t *testing.T) {
	g := rigged(t, 10, 4, 6, 3)
	g.puts(t, 64, 2, 3)
	g.ups(t, 1*64+7)
	was := row(g.r)
	for _, va := range append(beyond, 0, 63, 128, 1023, 1024, 16320, 16384, 16384+64, 17408, end-1) {
		g.s.Drop(va)
	}
	if !bytes.Equal(row(g.r), was) {
		t.Error("a Drop of a page that leads nowhere turns the memory")
	}
	g.lists(t, 64)
	g.counted(t, 1, 2)
}

func TestP16_3Clear(t *testing.T) {
	for n := 0; n <= 32; n++ {
		g := rigged(t, 40, 1, 4, 33)
		for k := range n {
			g.puts(t, uint32(k*31%32*1024+64*(k%16)), 39, 3)
		}
		g.counted(t, n, 33-n)
		for range 2 {
			g.s.Clear()
			g.counted(t, 0, 33)
			g.leads(t, nil)
			g.tabled(t)
			g.above(t)
		}
		if l := g.directory(t); slices.ContainsFunc(l, func(w uint32) bool { return w != 0 }) {
			t.Fatalf("behind a Clear the directory is %v", l)
		}
		// It can be put into again.
		g.puts(t, 64, 3, 1)
		g.leads(t, map[uint32]place{64: {3, 1}})
		g.counted(t, 1, 32)
	}
}

func TestP16_3ClearGivesJustTheTables(t *testing.T) {
	g := rigged(t, 12, 0, 2, 6)
	g.p.Take()
	g.puts(t, 0, 11, 3)
	g.p.Take()
	g.puts(t, 1024, 11, 3)
	g.s.Clear()
	g.counted(t, 0, 4)
	for _, f := range []int{3, 5, 2, 4} {
		if is := g.p.Give(f); is != (f == 2 || f == 4) {
			t.Errorf("behind a Clear the frame %d is lent: %t", f, is)
		}
	}
}

func TestP16_3ClearOfWhatIsLaid(t *testing.T) {
	for n := range 17 {
		g := rigged(t, 12, 0, 2, 6)
		words := make([]uint32, n)
		for k := range words {
			words[k] = uint32(k)*0x01010101 + 5
		}
		g.puts(t, 100, 11, 3)
		g.ups(t, words...)
		for range 3 {
			g.s.Clear()
			g.above(t, words...)
			g.counted(t, 0, 6)
			g.lists(t)
			if l := g.directory(t)[:16]; slices.ContainsFunc(l, func(w uint32) bool { return w != 0 }) {
				t.Fatalf("behind a Clear the lower half is %v", l)
			}
			g.puts(t, 2048, 11, 3)
		}
	}
}

func TestP16_3DirectoryIsAll0WhateverWasLaidThere(t *testing.T) {
	g := rigged(t, 12, 3, 6, 2)
	g.puts(t, 0, 11, 3)
	g.ups(t, 9, 10)
	for k := range uint32(32) {
		g.r.SetWord(3*64+4*k, 11*64+7)
	}
	g.s.Clear()
	want := make([]uint32, 32)
	want[16], want[17] = 9, 10
	if l := g.directory(t); !slices.Equal(l, want) {
		t.Errorf("behind a Clear the directory is %v, want %v", l, want)
	}
}

func TestP16_3PagesRise(t *testing.T) {
	g := rigged(t, 40, 0, 2, 32)
	rising := []uint32{0, 64, 960, 1024, 1984, 5120, 16320, 16384, 17000 / 64 * 64, end - 1024, end - 64}
	for k := range rising {
		g.puts(t, rising[(k*4+3)%len(rising)]+uint32(k), k, 0)
	}
	g.lists(t, rising...)
	g.lists(t, rising...)
}

func TestP16_3PagesAreEachAnswersOwn(t *testing.T) {
	g := rigged(t, 10, 4, 6, 2)
	g.puts(t, 0, 1, 3)
	g.puts(t, 64, 1, 3)
	a, b := g.s.Pages(), g.s.Pages()
	a[0], a = 77, append(a[:1], 78)
	if !slices.Equal(b, []uint32{0, 64}) {
		t.Errorf("one answer's turning turned another: %v", b)
	}
	g.leads(t, map[uint32]place{0: {1, 3}, 64: {1, 3}})
}

func TestP16_3HasAndTables(t *testing.T) {
	g := rigged(t, 40, 0, 2, 32)
	var there []uint32
	for k := range uint32(32) {
		va := k * 13 % 32 * 1024
		g.puts(t, va+k*31, 39, 3)
		there = append(there, va)
		g.tabled(t, there...)
	}
	for _, va := range beyond {
		if g.s.Has(va) {
			t.Errorf("Has(%d) = true", va)
		}
	}
	g.s.Clear()
	g.tabled(t)
}

func TestP16_4Lengths(t *testing.T) {
	g := rigged(t, 10, 4, 6, 2)
	g.puts(t, 64, 1, 3)
	// Each length over each other one.
	for first := range 17 {
		for then := range 20 {
			a, b := make([]uint32, first), make([]uint32, then)
			for k := range a {
				a[k] = uint32(1000 + k)
			}
			for k := range b {
				b[k] = uint32(2000+k) << 16
			}
			g.ups(t, a...)
			g.above(t, a...)
			if then <= 16 {
				g.ups(t, b...)
				g.above(t, b...)
			} else {
				g.noUp(t, b...)
				g.above(t, a...)
			}
			g.lists(t, 64)
			g.tabled(t, 64)
		}
	}
	g.noUp(t, make([]uint32, 32)...)
	g.noUp(t, make([]uint32, 1000)...)
}

func TestP16_4NoWords(t *testing.T) {
	// No list and an empty one are one.
	for name, none := range map[string][]uint32{"nil": nil, "empty": {}} {
		g := rigged(t, 10, 4, 6, 2)
		g.ups(t, 1, 2, 3)
		if !g.s.Upper(none) {
			t.Fatalf("Upper(%s) = false", name)
		}
		g.above(t)
		g.puts(t, 16384, 1, 3)
		g.leads(t, map[uint32]place{16384: {1, 3}})
	}
}

func TestP16_4AnyWords(t *testing.T) {
	for _, w := range []uint32{0, 1, 7, 63, 64, 1 << 31, math.MaxUint32} {
		g := rigged(t, 10, 8, 6, 2)
		g.ups(t, w, 0, w)
		g.above(t, w, 0, w)
		g.s.Clear()
		g.above(t, w, 0, w)
		g.lists(t)
		g.tabled(t)
		g.noPutNoTake(t, 16384, 1, 3)
		g.noPutNoTake(t, end-64, 1, 3)
	}
}

func TestP16_4WhatIsLaidLeads(t *testing.T) {
	// A walk goes by what is laid; Pages, Has and Tables do not tell of it, and Drop does not turn it.
	g := rigged(t, 10, 4, 6, 2)
	g.r.Fill(64, make([]byte, 64))
	g.r.SetWord(64+8, 2*64+9)
	g.ups(t, 0, 64+7)
	g.puts(t, 5000, 3, 1)
	want := map[uint32]place{5000 / 64 * 64: {3, 1}, 17408 + 128: {2, 9}}
	g.s.Drop(17408 + 128)
	if got := g.walked(t); !maps.Equal(got, want) {
		t.Errorf("the pages lead to %v, want %v", got, want)
	}
	g.lists(t, 5000/64*64)
	g.tabled(t, 5000)
	g.s.Clear()
	delete(want, 5000/64*64)
	if got := g.walked(t); !maps.Equal(got, want) {
		t.Errorf("behind a Clear the pages lead to %v, want %v", got, want)
	}
	g.lists(t)
}

func TestP16_4PagesAbove(t *testing.T) {
	for _, va := range []uint32{16384, 16385, 17407, 17408, 24000, end - 1024, end - 1} {
		for _, words := range [][]uint32{nil, {7}, {0}, make([]uint32, 16), make([]uint32, 17)} {
			g := rigged(t, 10, 4, 6, 3)
			g.puts(t, 16383, 1, 3)
			g.puts(t, va, 2, 3)
			g.noUp(t, words...)
			want := map[uint32]place{16320: {1, 3}, va / 64 * 64: {2, 3}}
			g.leads(t, want)
			g.counted(t, 2, 1)
			// The page above is dropped: its table is given back, and it alone.
			g.s.Drop(va)
			g.counted(t, 2, 1)
			if len(words) == 17 {
				g.noUp(t, words...)
				continue
			}
			g.ups(t, words...)
			g.counted(t, 1, 2)
			g.tabled(t, 16383)
			g.lists(t, 16320)
			g.above(t, words...)
			if f, is := g.p.Take(); !is || f != 7 {
				t.Fatalf("behind Upper the pool lends %d, %t, want 7, true", f, is)
			}
		}
	}
}

func TestP16_4OnePageOfManyAbove(t *testing.T) {
	g := rigged(t, 40, 0, 2, 20)
	for k := range uint32(16) {
		g.puts(t, 16384+1024*k+64*k, 39, 3)
	}
	for k := range uint32(16) {
		g.noUp(t, 1, 2)
		g.noUp(t)
		g.s.Drop(16384 + 1024*(k*7%16) + 64*(k*7%16))
	}
	g.counted(t, 16, 4)
	g.ups(t, 1, 2)
	g.counted(t, 0, 20)
	g.above(t, 1, 2)
	g.s.Clear()
	g.above(t, 1, 2)
	g.ups(t)
	g.puts(t, 16384+64, 39, 3)
	g.leads(t, map[uint32]place{16384 + 64: {39, 3}})
}

func TestP16_4ClearedPagesAbove(t *testing.T) {
	g := rigged(t, 10, 4, 6, 3)
	g.puts(t, 20000, 2, 3)
	g.puts(t, 0, 2, 3)
	g.noUp(t, 9)
	g.s.Clear()
	g.ups(t, 9)
	g.above(t, 9)
	g.counted(t, 0, 3)
}

func TestP16_4TheLowerHalfStays(t *testing.T) {
	g := rigged(t, 10, 4, 6, 3)
	g.puts(t, 0, 1, 3)
	g.puts(t, 16320, 2, 3)
	was := row(g.r)
	g.ups(t, 11, 12)
	g.ups(t)
	if !bytes.Equal(row(g.r), was) {
		t.Error("an Upper turns more than the upper half")
	}
	g.leads(t, map[uint32]place{0: {1, 3}, 16320: {2, 3}})
}

func TestP16_4WordsAreNeitherKeptNorChanged(t *testing.T) {
	g := rigged(t, 10, 4, 6, 3)
	room := []uint32{21, 22, 23, 24, 25}
	words := room[:3]
	if !g.s.Upper(words) {
		t.Fatal("Upper = false")
	}
	if !slices.Equal(room, []uint32{21, 22, 23, 24, 25}) {
		t.Errorf("Upper turns the words, or the room behind them: %v", room)
	}
	words[0], room[3] = 99, 98
	g.s.Clear()
	g.above(t, 21, 22, 23)
}

func TestP16_5Unmade(t *testing.T) {
	for name, s := range unmade() {
		t.Run(name, func(t *testing.T) {
			for range 2 {
				if a := s.Root(); a != 0 {
					t.Errorf("Root = %d", a)
				}
				for _, va := range append(beyond, 0, 63, 64, 1024, 16383, 16384, end-1) {
					for _, f := range append(noFrames(1), 0) {
						if s.Put(va, f, api.EWrite) {
							t.Errorf("Put(%d, %d) = true", va, f)
						}
					}
					s.Drop(va)
					if s.Has(va) {
						t.Errorf("Has(%d) = true", va)
					}
				}
				for n := range 20 {
					if s.Upper(make([]uint32, n)) {
						t.Errorf("Upper of %d words = true", n)
					}
				}
				if s.Upper(nil) {
					t.Error("Upper(nil) = true")
				}
				s.Clear()
				if n, l := s.Tables(), s.Pages(); n != 0 || len(l) != 0 {
					t.Errorf("Tables = %d, Pages = %v", n, l)
				}
			}
		})
	}
}

func TestP16_6TwoInOneMemory(t *testing.T) {
	// They share a memory and a pool, and what is put in one is found in no other.
	r, p := dirty(t, 20), lender(t, 10, 5)
	a, b := of(t, r, 0, p), of(t, r, 18, p)
	a.puts(t, 64, 3, 3)
	b.puts(t, 64, 4, 1)
	a.puts(t, 2048, 5, 9)
	b.puts(t, 20000, 6, 5)
	inA := map[uint32]place{64: {3, 3}, 2048: {5, 9}}
	a.leads(t, inA)
	b.leads(t, map[uint32]place{64: {4, 1}, 20000 / 64 * 64: {6, 5}})
	a.counted(t, 2, 1)
	b.counted(t, 2, 1)
	b.s.Clear()
	b.leads(t, nil)
	a.leads(t, inA)
	a.counted(t, 2, 3)
	b.ups(t, 7)
	a.above(t)
	b.puts(t, 0, 3, 3)
	b.puts(t, 1024, 3, 3)
	b.puts(t, 2048, 3, 3)
	b.noPut(t, 3072, 3, 3)
	a.noPut(t, 3072, 3, 3)
	a.leads(t, inA)
	a.s.Clear()
	b.puts(t, 3072, 3, 3)
	b.lists(t, 0, 1024, 2048, 3072)
}

func TestP16_6InAWindow(t *testing.T) {
	// Frames are the window's own, wherever they lie in the memory behind it.
	r := dirty(t, 20)
	w, e := r.Window([]int{19, 4, 9, 2, 11, 0})
	if e != api.OK {
		t.Fatal(int(e))
	}
	was := row(r)
	g := of(t, w, 1, lender(t, 4, 2))
	g.puts(t, 20000, 5, 3)
	g.puts(t, 64, 3, 3)
	g.leads(t, map[uint32]place{64: {3, 3}, 20000 / 64 * 64: {5, 3}})
	for f := range 20 {
		wrote := !bytes.Equal(r.Frame(f), was[f*64:f*64+64])
		if may := f == 4 || f == 9 || f == 11 || f == 0; wrote && !may {
			t.Errorf("the frame %d was written", f)
		}
	}
}

func TestP16_6MemoryIsUsedAsItIs(t *testing.T) {
	// A page may lead to any frame, also to the directory's and to tables; none of these is turned by it.
	g := rigged(t, 8, 2, 5, 2)
	want := map[uint32]place{}
	for f := range 8 {
		va := uint32(f * 64)
		g.puts(t, va, f, 3)
		want[va] = place{f, 3}
	}
	g.leads(t, want)
	g.counted(t, 1, 1)
}

func TestExamples(t *testing.T) {
	r, e := ram.New(10)
	if e != api.OK {
		t.Fatal(int(e))
	}
	g := of(t, r, 4, lender(t, 6, 2))
	if a := g.s.Root(); a != 256 {
		t.Errorf("Root = %d", a)
	}
	g.puts(t, 65, 1, api.EThere|api.EWrite)
	if a, b := word(t, r, 256), word(t, r, 388); a != 384+7 || b != 64+3 {
		t.Errorf("the words are %d, %d, want 391, 67", a, b)
	}
	g.puts(t, 1024, 2, 1)
	g.noPut(t, 2048, 2, 1)
	g.lists(t, 64, 1024)
}
