package tlb_test

import (
	"math"
	"math/rand"
	"testing"

	"mummer/api"
	"mummer/tlb"
)

const greatest = math.MaxUint32

func of(t *testing.T, slots int) *tlb.TLB {
	t.Helper()
	x, e := tlb.New(slots)
	if x == nil || e != api.OK {
		t.Fatalf("New(%d) = %v, %d", slots, x != nil, int(e))
	}
	return x
}

// kept asks that a page is remembered with those bits and that frame.
func kept(t *testing.T, x *tlb.TLB, page, bits uint32, frame int) {
	t.Helper()
	if b, f, is := x.Look(page); b != bits || f != frame || !is {
		t.Errorf("Look(%d) = %d, %d, %t, want %d, %d, true", page, b, f, is, bits, frame)
	}
}

// none asks that nothing is remembered of pages.
func none(t *testing.T, x *tlb.TLB, pages ...uint32) {
	t.Helper()
	for _, page := range pages {
		if b, f, is := x.Look(page); b != 0 || f != 0 || is {
			t.Errorf("Look(%d) = %d, %d, %t, want 0, 0, false", page, b, f, is)
		}
	}
}

func counted(t *testing.T, x *tlb.TLB, found, missed int) {
	t.Helper()
	if f, m := x.Counts(); f != found || m != missed {
		t.Errorf("Counts = %d, %d, want %d, %d", f, m, found, missed)
	}
}

// unmade are the TLBs that New did not make.
func unmade() map[string]*tlb.TLB {
	return map[string]*tlb.TLB{"a nil TLB": nil, "a TLB that New did not make": {}}
}

// call is one that turns what is remembered.
type call struct {
	name       string
	page, bits uint32
	frame      int
}

// past is the test's own reading of P7.2: no slots at all, but all calls that
// there were, in their order, which are asked from the last one back.
type past struct {
	slots         uint64
	calls         []call
	found, missed int
}

func (p *past) look(page uint32) (uint32, int, bool) {
	for k := len(p.calls) - 1; k >= 0; k-- {
		c := p.calls[k]
		switch {
		case c.name == "Flush", c.name == "Drop" && c.page == page:
			p.missed++
			return 0, 0, false
		case c.name == "Put" && c.page == page:
			p.found++
			return c.bits, c.frame, true
		case c.name == "Put" && uint64(c.page)%p.slots == uint64(page)%p.slots:
			p.missed++
			return 0, 0, false
		}
	}
	p.missed++
	return 0, 0, false
}

func do(x *tlb.TLB, p *past, c call) {
	p.calls = append(p.calls, c)
	switch c.name {
	case "Put":
		x.Put(c.page, c.bits, c.frame)
	case "Drop":
		x.Drop(c.page)
	case "Flush":
		x.Flush()
	}
}

// held asks both of a page.
func held(t *testing.T, x *tlb.TLB, p *past, page uint32) {
	t.Helper()
	b, f, is := x.Look(page)
	wantB, wantF, want := p.look(page)
	if b != wantB || f != wantF || is != want {
		t.Fatalf("%d slots, behind %d calls: Look(%d) = %d, %d, %t, want %d, %d, %t", p.slots, len(p.calls), page, b, f, is, wantB, wantF, want)
	}
}

// somePage is one of few pages, so that they meet, at the ends of all numbers.
func somePage(x *rand.Rand, slots int) uint32 {
	page := uint32(x.Intn(3*slots + 2))
	switch x.Intn(4) {
	case 0:
		return greatest - page
	case 1:
		return 1<<31 - uint32(slots) + page
	}
	return page
}

func someCall(x *rand.Rand, slots int) call {
	page := somePage(x, slots)
	switch n := x.Intn(4 * (slots + 4)); {
	case n == 0:
		return call{name: "Flush"}
	case n%4 == 0:
		return call{name: "Drop", page: page}
	}
	return call{"Put", page, x.Uint32() >> x.Intn(33), int(x.Uint64()) >> x.Intn(64)}
}

func TestP7_1Numbers(t *testing.T) {
	for _, n := range []int{math.MinInt, math.MinInt + 1, math.MinInt + 64, math.MinInt32, -1 << 32, -1<<32 + 4, -64, -2, -1, 0, 65, 66, 127, 128, 256, 257, 1 << 16, math.MaxInt32, 1 << 32, 1<<32 + 1, 1<<32 + 64, math.MaxInt - 1, math.MaxInt} {
		if x, e := tlb.New(n); x != nil || e != api.ErrArg {
			t.Errorf("New(%d) = %v, %d, want nil, %d", n, x != nil, int(e), int(api.ErrArg))
		}
	}
	for n := 1; n <= 64; n++ {
		counted(t, of(t, n), 0, 0)
	}
}

func TestP7_1RemembersNothing(t *testing.T) {
	for n := 1; n <= 64; n++ {
		x := of(t, n)
		none(t, x, 0, 1, uint32(n)-1, uint32(n), uint32(n)+1, 1<<31-1, 1<<31, greatest-1, greatest)
		for page := range uint32(130) {
			none(t, x, page)
		}
	}
}

func TestP7_1EachItsOwn(t *testing.T) {
	a, b := of(t, 4), of(t, 4)
	a.Put(1, 7, 3)
	none(t, b, 1)
	kept(t, a, 1, 7, 3)
	b.Put(1, 5, 2)
	b.Flush()
	kept(t, a, 1, 7, 3)
	counted(t, a, 2, 0)
	counted(t, b, 0, 1)
}

func TestP7_2EveryNumberOfSlots(t *testing.T) {
	// As many pages in a row as there are slots keep out of each other's way; the next one takes the first one's place.
	for n := 1; n <= 64; n++ {
		for _, from := range []uint32{0, 1, 63, 1 << 16, 1<<31 - 5, greatest - 64} {
			x := of(t, n)
			for k := range uint32(n) {
				x.Put(from+k, 100+k, int(k)-7)
			}
			for k := range uint32(n) {
				kept(t, x, from+k, 100+k, int(k)-7)
			}
			last := from + uint32(n)
			x.Put(last, 9, 8)
			kept(t, x, last, 9, 8)
			none(t, x, from)
			for k := uint32(1); k < uint32(n); k++ {
				kept(t, x, from+k, 100+k, int(k)-7)
			}
		}
	}
}

func TestP7_2PlaceIsByModulo(t *testing.T) {
	// Whether two pages share a slot is asked of all pairs of some.
	pages := []uint32{0, 1, 2, 3, 4, 5, 6, 7, 11, 62, 63, 64, 65, 127, 128, 129, 255, 256, 1 << 16, 1<<24 + 1, 1<<31 - 1, 1 << 31, 1<<31 + 1, greatest - 64, greatest - 1, greatest}
	for n := 1; n <= 64; n++ {
		for _, a := range pages {
			for _, b := range pages {
				x := of(t, n)
				x.Put(a, 1, 2)
				x.Put(b, 3, 4)
				kept(t, x, b, 3, 4)
				if a != b && uint64(a)%uint64(n) == uint64(b)%uint64(n) {
					none(t, x, a)
				} else if a != b {
					kept(t, x, a, 1, 2)
				}
			}
		}
	}
}

func TestP7_2NumbersThatArePut(t *testing.T) {
	x := of(t, 3)
	for _, page := range []uint32{0, 1, 2, 3, greatest} {
		for _, bits := range []uint32{0, 1, 7, 31, 32, 1 << 31, greatest} {
			for _, frame := range []int{0, 1, -1, 63, 511, math.MinInt32, math.MaxInt32, 1 << 32, math.MinInt, math.MaxInt} {
				x.Put(page, bits, frame)
				kept(t, x, page, bits, frame)
			}
		}
	}
}

func TestP7_2PageZero(t *testing.T) {
	x := of(t, 4)
	none(t, x, 0)
	x.Put(0, 0, 0)
	kept(t, x, 0, 0, 0)
	none(t, x, 4, 8)
	x.Put(4, 1, 1)
	none(t, x, 0)
	x.Drop(4)
	none(t, x, 0, 4)
	x.Put(0, 2, 3)
	x.Flush()
	none(t, x, 0)
}

func TestP7_2PutAgain(t *testing.T) {
	x := of(t, 5)
	x.Put(6, 7, 3)
	x.Put(2, 1, 1)
	x.Put(6, 5, 3)
	kept(t, x, 6, 5, 3)
	x.Put(6, 5, 9)
	kept(t, x, 6, 5, 9)
	x.Put(6, 0, 0)
	kept(t, x, 6, 0, 0)
	kept(t, x, 2, 1, 1)
}

func TestP7_2LookTurnsNothing(t *testing.T) {
	x := of(t, 4)
	x.Put(1, 7, 3)
	for range 3 {
		none(t, x, 5, 9, 0, 2)
		kept(t, x, 1, 7, 3)
	}
}

func TestP7_2Drop(t *testing.T) {
	x := of(t, 4)
	x.Drop(1)
	none(t, x, 1, 0)
	x.Put(1, 7, 3)
	x.Put(2, 6, 4)
	x.Drop(5)
	x.Drop(0)
	x.Drop(greatest)
	kept(t, x, 1, 7, 3)
	kept(t, x, 2, 6, 4)
	x.Drop(1)
	none(t, x, 1)
	kept(t, x, 2, 6, 4)
	x.Drop(1)
	none(t, x, 1)
	x.Put(1, 5, 2)
	kept(t, x, 1, 5, 2)
}

func TestP7_2DropDoesNotBringBack(t *testing.T) {
	// The page that another one put out of its slot stays out when that one goes.
	x := of(t, 4)
	x.Put(1, 7, 3)
	x.Put(5, 3, 2)
	x.Drop(5)
	none(t, x, 1, 5)
}

func TestP7_2DropEverySlot(t *testing.T) {
	for n := 1; n <= 64; n++ {
		for gone := range uint32(n) {
			x := of(t, n)
			for page := range uint32(n) {
				x.Put(page, page+1, 1)
			}
			x.Drop(gone + uint32(n))
			kept(t, x, gone, gone+1, 1)
			x.Drop(gone)
			for page := range uint32(n) {
				if page == gone {
					none(t, x, page)
				} else {
					kept(t, x, page, page+1, 1)
				}
			}
		}
	}
}

func TestP7_2Flush(t *testing.T) {
	for n := 1; n <= 64; n++ {
		x := of(t, n)
		x.Flush()
		for page := range uint32(n) {
			none(t, x, page)
			x.Put(page, 7, 3)
		}
		x.Flush()
		for page := range uint32(n) {
			none(t, x, page)
		}
		x.Flush()
		x.Put(uint32(n), 6, 2)
		kept(t, x, uint32(n), 6, 2)
		none(t, x, 0)
		x.Put(0, 5, 1)
		kept(t, x, 0, 5, 1)
	}
}

func TestP7_2AsRead(t *testing.T) {
	// Every row of four calls on two pages that share a slot and one that does not.
	all := []call{{name: "Flush"}}
	for _, page := range []uint32{0, 3, 1} {
		all = append(all, call{"Put", page, page + 10, 1}, call{"Put", page, page + 20, 2}, call{name: "Drop", page: page})
	}
	n := len(all)
	for row := range n * n * n * n {
		x, p := of(t, 3), &past{slots: 3}
		for k := row; len(p.calls) < 4; k /= n {
			do(x, p, all[k%n])
		}
		for _, page := range []uint32{0, 3, 1, 2, 6, 4} {
			held(t, x, p, page)
		}
		counted(t, x, p.found, p.missed)
	}
}

func TestP7_3Counts(t *testing.T) {
	x := of(t, 4)
	counted(t, x, 0, 0)
	none(t, x, 1)
	counted(t, x, 0, 1)
	x.Put(1, 7, 3)
	counted(t, x, 0, 1)
	kept(t, x, 1, 7, 3)
	counted(t, x, 1, 1)
	kept(t, x, 1, 7, 3)
	none(t, x, 5, 2)
	counted(t, x, 2, 3)
	counted(t, x, 2, 3)
}

func TestP7_3OnlyLooksCount(t *testing.T) {
	x := of(t, 3)
	x.Put(1, 7, 3)
	kept(t, x, 1, 7, 3)
	none(t, x, 0, 2)
	turns := []func(){
		func() { x.Put(1, 6, 2) },
		func() { x.Put(4, 6, 2) },
		func() { x.Put(0, 0, 0) },
		func() { x.Drop(0) },
		func() { x.Drop(1) },
		func() { x.Drop(2) },
		func() { x.Drop(4) },
		x.Flush,
		x.Flush,
		func() { x.Drop(4) },
	}
	for k, turn := range turns {
		turn()
		if f, m := x.Counts(); f != 1 || m != 2 {
			t.Errorf("behind turn %d Counts = %d, %d, want 1, 2", k, f, m)
		}
	}
	none(t, x, 0)
	counted(t, x, 1, 3)
}

func TestP7_3Many(t *testing.T) {
	x := of(t, 2)
	x.Put(0, 1, 1)
	for k := range 70000 {
		x.Look(0)
		x.Look(1)
		if k%2 == 0 {
			x.Look(2)
		}
	}
	counted(t, x, 70000, 105000)
}

func TestP7_4Unmade(t *testing.T) {
	for name, x := range unmade() {
		t.Run(name, func(t *testing.T) {
			counted(t, x, 0, 0)
			none(t, x, 0, 1, 64, greatest)
			counted(t, x, 0, 0)
			x.Drop(0)
			x.Drop(greatest)
			x.Flush()
			for _, page := range []uint32{0, 1, 64, greatest} {
				x.Put(page, 7, 3)
				none(t, x, page)
				x.Drop(page)
				none(t, x, page)
			}
			x.Put(1, 7, 3)
			x.Flush()
			none(t, x, 0, 1)
			counted(t, x, 0, 0)
		})
	}
}

func TestP7_5LongRows(t *testing.T) {
	x := rand.New(rand.NewSource(75))
	for slots := 1; slots <= 64; slots++ {
		m, p := of(t, slots), &past{slots: uint64(slots)}
		for range 600 {
			do(m, p, someCall(x, slots))
			for range 3 {
				held(t, m, p, somePage(x, slots))
			}
		}
		counted(t, m, p.found, p.missed)
		if p.found == 0 || p.missed == 0 {
			t.Errorf("%d slots: %d looks were true, %d false", slots, p.found, p.missed)
		}
	}
}

func TestP7_5NeverSinceDroppedOrFlushed(t *testing.T) {
	// What is remembered is held against the last word on that page alone, whatever else was put.
	x := rand.New(rand.NewSource(76))
	for round := range 200 {
		slots := 1 + x.Intn(64)
		m, last := of(t, slots), map[uint32]call{}
		for range 300 {
			c := someCall(x, slots)
			do(m, &past{}, c)
			last[c.page] = c
			if c.name == "Flush" {
				last = map[uint32]call{}
			}
		}
		for k := range uint32(5*slots + 10) {
			for _, page := range []uint32{k, greatest - k, 1<<31 - uint32(slots) + k} {
				b, f, is := m.Look(page)
				if c := last[page]; is && (c.name != "Put" || c.bits != b || c.frame != f) {
					t.Fatalf("round %d, %d slots: Look(%d) = %d, %d, true behind %+v", round, slots, page, b, f, c)
				}
			}
		}
	}
}

func TestExamples(t *testing.T) {
	x := of(t, 4)
	x.Put(1, 7, 3)
	x.Put(5, 3, 2)
	none(t, x, 1)
	kept(t, x, 5, 3, 2)
	x.Drop(1)
	kept(t, x, 5, 3, 2)
	x.Flush()
	none(t, x, 5)
	counted(t, x, 2, 2)
}
