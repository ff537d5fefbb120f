package stub_test

import (
	"testing"

	"mummer/api"
	"mummer/host"
	"mummer/pool"
	"mummer/ram"
	"mummer/shadow"
	"mummer/stub"
	"mummer/walk"
)

// space is a host's, into which code is laid at any of its addresses: frames are
// given to those pages alone that have some.
type space struct {
	r    *ram.RAM
	s    *shadow.Shadow
	next int // the next page's frame
}

// empty is a space whose directory is in the frames 0 and 1, its tables in the
// frames from 2 on, and its pages in those from 8 on.
func empty(t *testing.T) *space {
	t.Helper()
	r, e := ram.New(16)
	if e != api.OK {
		t.Fatal(int(e))
	}
	p, e := pool.New(2, 6)
	if e != api.OK {
		t.Fatal(int(e))
	}
	s, e := shadow.New(r, 0, p)
	if e != api.OK {
		t.Fatal(int(e))
	}
	return &space{r, s, 8}
}

func (x *space) lay(t *testing.T, at int, b []byte) {
	t.Helper()
	for k, one := range b {
		if va := uint32(at + k); !x.r.SetByte(x.physical(t, va), one) {
			t.Fatalf("no byte at %d", va)
		}
	}
}

func (x *space) physical(t *testing.T, va uint32) uint32 {
	t.Helper()
	way, is := walk.Look(x.r, x.s.Root(), api.HostDirs, va)
	if is {
		return way.At
	}
	if !x.s.Put(va, x.next, api.EThere|api.EUser) {
		t.Fatalf("no page at %d", va)
	}
	x.next++
	return uint32(x.next-1)*api.PageSize + va%api.PageSize
}

// runs is what a new host does from a place on, and how many it has counted.
func (x *space) runs(t *testing.T, from int) (api.Exit, int) {
	t.Helper()
	h, e := host.New(x.r, 16)
	if e != api.OK {
		t.Fatal(int(e))
	}
	h.Load(api.State{PC: uint32(from), CR: [8]uint32{api.CRoot: x.s.Root()}})
	h.Tally(true, 1000)
	exit := h.Run(50)
	return exit, h.Count()
}

func (x *space) leaves(t *testing.T, from, exit, instructions, counted int) {
	t.Helper()
	want := api.Exit{Kind: api.XLeave, Addr: uint32(exit), N: instructions}
	if got, n := x.runs(t, from); got != want || n != counted {
		t.Fatalf("from %d: %+v, counted %d, want %+v, %d", from, got, n, want, counted)
	}
}

// TestP19_4InALeavesPlace: a host leaves by a stub; by one in whose leave's
// place a jump stands it goes to where that leads, and what stood there is
// counted all the same; and when the leave stands again, it leaves as before.
func TestP19_4InALeavesPlace(t *testing.T) {
	const leave = 2 // where a stub's begins
	places := []int{0, 5, 58, 59, 60, 61, 62, 63, 64, 255, 1019, 1020, 1024, 16379, 16384, 32700, 32758, 32763}
	for _, from := range places {
		for _, to := range places {
			if from-to < stub.Size && to-from < stub.Size {
				continue
			}
			x := empty(t)
			first := made(t, 3, 258)
			x.lay(t, from, first)
			x.lay(t, to, made(t, 200, 65535))
			x.leaves(t, from, 258, 1, 3)
			x.leaves(t, to, 65535, 1, 200)

			jump := led(t, from+leave, to)
			none(t, append(first[:leave:leave], jump...))
			x.lay(t, from+leave, jump)
			x.leaves(t, from, 65535, 3, 203)
			x.leaves(t, to, 65535, 1, 200)

			x.lay(t, from+leave, first[leave:])
			x.leaves(t, from, 258, 1, 3)
		}
	}
}
