package shadow_test

import (
	"bytes"
	"maps"
	"math/rand"
	"slices"
	"testing"
)

// call is one that turns a shadow, and whether it was true.
type call struct {
	name  string
	va    uint32
	frame int
	bits  uint32
	words []uint32
	is    bool
}

// past is the test's own reading of the chapter: nothing but the calls that
// there were, in their order, which are asked from the last one back. The pool
// is the shadow's alone, and room is how many of its frames are the memory's.
type past struct {
	frames, room int
	calls        []call
}

// page is where a page leads by Put.
func (h *past) page(va uint32) (place, bool) {
	for _, c := range slices.Backward(h.calls) {
		switch {
		case c.name == "Clear":
			return place{}, false
		case c.name == "Drop" && c.va/64 == va/64:
			return place{}, false
		case c.name == "Put" && c.is && c.va/64 == va/64:
			return place{c.frame, c.bits%16 | 1}, true
		}
	}
	return place{}, false
}

func (h *past) pages() map[uint32]place {
	all := map[uint32]place{}
	for va := uint32(0); va < end; va += 64 {
		if x, is := h.page(va); is {
			all[va] = x
		}
	}
	return all
}

// table is whether the k-th table is there.
func (h *past) table(k uint32) bool {
	for _, c := range slices.Backward(h.calls) {
		switch {
		case c.name == "Clear", c.name == "Upper" && c.is && k >= 16:
			return false
		case c.name == "Put" && c.is && c.va/1024 == k:
			return true
		}
	}
	return false
}

func (h *past) tables() []uint32 {
	var list []uint32
	for k := range uint32(32) {
		if h.table(k) {
			list = append(list, k*1024)
		}
	}
	return list
}

func (h *past) laid() []uint32 {
	for _, c := range slices.Backward(h.calls) {
		if c.name == "Upper" && c.is {
			return c.words
		}
	}
	return nil
}

// judge is whether a call is true.
func (h *past) judge(c call) bool {
	switch c.name {
	case "Put":
		if c.va >= end || c.frame < 0 || c.frame >= h.frames {
			return false
		}
		if c.va >= 16384 && len(h.laid()) > 0 {
			return false
		}
		return h.table(c.va/1024) || len(h.tables()) < h.room
	case "Upper":
		for va := range h.pages() {
			if va >= 16384 {
				return false
			}
		}
		return len(c.words) <= 16
	}
	return false
}

// do does one call of the shadow, and notes it.
func (g *rig) do(t *testing.T, h *past, c call) {
	t.Helper()
	want := h.judge(c)
	switch c.name {
	case "Put":
		c.is = g.s.Put(c.va, c.frame, c.bits)
	case "Upper":
		c.is = g.s.Upper(c.words)
	case "Drop":
		g.s.Drop(c.va)
	case "Clear":
		g.s.Clear()
	}
	if c.is != want {
		t.Fatalf("behind %v: %v, want %t", h.calls, c, want)
	}
	h.calls = append(h.calls, c)
}

// lent is the frames to which the directory's entries of tables lead.
func (g *rig) lent(t *testing.T, h *past) []int {
	t.Helper()
	var list []int
	for _, va := range h.tables() {
		w := word(t, g.r, uint32(g.dir*64)+va/1024*4)
		if w%64 != 7 || slices.Contains(list, int(w/64)) {
			t.Fatalf("behind %v: the entry of %d is %d, the frames ahead %v", h.calls, va, w, list)
		}
		list = append(list, int(w/64))
	}
	return list
}

// same holds all that a shadow tells, and all that a walk says, against the
// test's reading. The words that are laid lead nowhere in these tests.
func (g *rig) same(t *testing.T, h *past) {
	t.Helper()
	pages, tables := h.pages(), h.tables()
	if got := g.walked(t); !maps.Equal(got, pages) {
		t.Fatalf("behind %v: the pages lead to %v, want %v", h.calls, got, pages)
	}
	if l, want := g.s.Pages(), slices.Sorted(maps.Keys(pages)); !slices.Equal(l, want) {
		t.Fatalf("behind %v: Pages = %v, want %v", h.calls, l, want)
	}
	for k := range uint32(34) {
		if is := g.s.Has(k*1024 + k); is != h.table(k) {
			t.Fatalf("behind %v: Has(%d) = %t", h.calls, k*1024+k, is)
		}
	}
	dir := g.directory(t)
	for k := range 32 {
		want := uint32(0)
		if laid := h.laid(); k >= 16 && k-16 < len(laid) {
			want = laid[k-16]
		}
		if !h.table(uint32(k)) && dir[k] != want {
			t.Fatalf("behind %v: the directory's entry %d is %d, want %d", h.calls, k, dir[k], want)
		}
	}
	if n := g.s.Tables(); n != len(tables) {
		t.Fatalf("behind %v: Tables = %d, want %d", h.calls, n, len(tables))
	}
}

// step is do, and asks besides that only the directory's frames were written,
// and such as were lent ahead of the call, or are behind it.
func (g *rig) step(t *testing.T, h *past, c call, frames int) {
	t.Helper()
	was, left, may := row(g.r), g.p.Left()+len(h.tables()), append(g.lent(t, h), g.dir, g.dir+1)
	g.do(t, h, c)
	may = append(may, g.lent(t, h)...)
	now := row(g.r)
	for f := range frames {
		if !slices.Contains(may, f) && !bytes.Equal(now[f*64:f*64+64], was[f*64:f*64+64]) {
			t.Fatalf("behind %v: the frame %d was written", h.calls, f)
		}
	}
	if n := g.p.Left() + len(h.tables()); n != left {
		t.Fatalf("behind %v: %d frames are left or tables, want %d", h.calls, n, left)
	}
}

// nowhere is so many words that no walk goes by.
func nowhere(n int) []uint32 {
	list := make([]uint32, n)
	for k := range list {
		list[k] = uint32(k)*128 + 6
	}
	return list
}

func TestP16_6EveryRowOfCalls(t *testing.T) {
	all := []call{
		{name: "Put", va: 65, frame: 1, bits: 2},
		{name: "Put", va: 127, frame: 2, bits: 9},
		{name: "Put", va: 1024, frame: 1},
		{name: "Put", va: 16384, frame: 1, bits: 31},
		{name: "Put", va: end - 1, frame: 0, bits: 4},
		{name: "Drop", va: 64},
		{name: "Drop", va: 16447},
		{name: "Clear"},
		{name: "Upper"},
		{name: "Upper", words: nowhere(2)},
		{name: "Upper", words: nowhere(17)},
	}
	const long = 4
	rows := 1
	for range long {
		rows *= len(all)
	}
	for which := range rows {
		g, h := rigged(t, 8, 4, 6, 2), &past{frames: 8, room: 2}
		for k := which; len(h.calls) < long; k /= len(all) {
			g.do(t, h, all[k%len(all)])
		}
		g.same(t, h)
	}
}

func TestP16_6LongRows(t *testing.T) {
	x := rand.New(rand.NewSource(166))
	for _, n := range []int{0, 1, 2, 5, 20, 40} {
		for range 12 {
			// The memory ends ahead of the pool, at times.
			frames := 10 + n - x.Intn(3)
			dir := x.Intn(min(9, frames-1))
			g := rigged(t, frames, dir, 10, n)
			h := &past{frames: frames, room: max(0, min(n, frames-10))}
			for range 120 {
				g.step(t, h, drawn(x, frames), frames)
				if x.Intn(4) == 0 {
					g.same(t, h)
				}
			}
		}
	}
}

// drawn is a call on few pages, so that many are put twice.
func drawn(x *rand.Rand, frames int) call {
	va := uint32(x.Intn(34)*1024 + x.Intn(3)*64 + x.Intn(64))
	if x.Intn(3) > 0 {
		va = uint32(x.Intn(3)*1024 + x.Intn(16)*64 + x.Intn(64) + x.Intn(2)*16384)
	}
	switch k := x.Intn(40); {
	case k == 0:
		return call{name: "Clear"}
	case k < 3:
		return call{name: "Upper", words: nowhere(x.Intn(18))}
	case k == 3:
		return call{name: "Upper"}
	case k < 16:
		return call{name: "Drop", va: va}
	}
	return call{name: "Put", va: va, frame: x.Intn(frames+2) - 1, bits: x.Uint32()}
}
