package strew_test

import (
	"math"
	"math/big"
	"math/rand"
	"slices"
	"testing"

	"mummer/api"
	"mummer/strew"
)

const greatest = math.MaxUint32

// edges are keys at the ends of all, and about where a sign would turn.
func edges() []uint32 {
	return []uint32{0, 1, 2, 255, 256, 1664525, 1<<31 - 1, 1 << 31, greatest - 1, greatest}
}

// drawn is x, moved so many times from a key on. Not by moving it: the key
// times the factor's power, and what is added times the sum of all lower powers,
// among numbers of any size.
func drawn(key uint32, moves int) uint64 {
	factor, more := big.NewInt(1664525), big.NewInt(1013904223)
	one, all := big.NewInt(1), new(big.Int).Lsh(big.NewInt(1), 32)
	less := new(big.Int).Sub(factor, one)
	power := new(big.Int).Exp(factor, big.NewInt(int64(moves)), new(big.Int).Mul(less, all))
	sum := new(big.Int).Sub(power, one)
	sum.Div(sum, less).Mul(sum, more)
	sum.Add(sum, new(big.Int).Mul(power, new(big.Int).SetUint64(uint64(key))))
	return sum.Mod(sum, all).Uint64()
}

// allDrawn are the x for rows of up to so many places.
func allDrawn(key uint32, places int) []uint64 {
	var list []uint64
	for k := 1; k < places; k++ {
		list = append(list, drawn(key, k))
	}
	return list
}

// read is the test's own reading of a strewn row: no row that is turned, but
// each place's number, found by going back through the changes from the last on.
func read(n int, xs []uint64) []int {
	row := make([]int, n)
	for place := range row {
		at := place
		for i := 1; i < n; i++ {
			j := int(xs[n-1-i] / 256 % uint64(i+1))
			switch at {
			case i:
				at = j
			case j:
				at = i
			}
		}
		row[place] = at
	}
	return row
}

func same(t *testing.T, n int, key uint32, want []int) {
	t.Helper()
	if got := strew.Order(n, key); !slices.Equal(got, want) {
		t.Fatalf("Order(%d, %d) = %v, want %v", n, key, got, want)
	}
}

// once asks that a list has each number from first on, as many as it is long.
func once(t *testing.T, list []int, first int) {
	t.Helper()
	sorted := slices.Sorted(slices.Values(list))
	for k, n := range sorted {
		if n != first+k {
			t.Fatalf("%v has not each number from %d on", list, first)
		}
	}
}

func of(t *testing.T, frames, first int, key uint32) *strew.Map {
	t.Helper()
	m, e := strew.New(frames, first, key)
	if m == nil || e != api.OK {
		t.Fatalf("New(%d, %d, %d) = %v, %d, want a map, 0", frames, first, key, m != nil, int(e))
	}
	return m
}

func refused(t *testing.T, frames, first int) {
	t.Helper()
	for _, key := range []uint32{0, 1, greatest} {
		if m, e := strew.New(frames, first, key); m != nil || e != api.ErrArg {
			t.Errorf("New(%d, %d, %d) = %v, %d, want nil, %d", frames, first, key, m != nil, int(e), int(api.ErrArg))
		}
	}
}

// lies asks a map for all that it can be asked of: that the guest's frames are
// these of the host's, and that there are no others.
func lies(t *testing.T, m *strew.Map, hosts []int) {
	t.Helper()
	if got := m.List(); !slices.Equal(got, hosts) {
		t.Fatalf("List = %v, want %v", got, hosts)
	}
	back := map[int]int{}
	for k, h := range hosts {
		back[h] = k
		asked(t, "Host", m.Host, k, h, true)
	}
	for h := -70; h < api.MaxHost+70; h++ {
		k, is := back[h]
		asked(t, "Guest", m.Guest, h, k, is)
	}
	for k := -70; k < 0; k++ {
		asked(t, "Host", m.Host, k, 0, false)
	}
	for k := len(hosts); k < api.MaxHost+70; k++ {
		asked(t, "Host", m.Host, k, 0, false)
	}
	for _, k := range far() {
		asked(t, "Host", m.Host, k, 0, false)
		asked(t, "Guest", m.Guest, k, 0, false)
	}
}

// far are numbers of no frame, among them such as lose what is above 8, 16 or 32
// bits to one.
func far() []int {
	return []int{math.MinInt, math.MinInt + 1, math.MinInt + 10, -1 << 32, -1<<32 + 1, math.MinInt32, -1 << 16, 1 << 16, 1<<16 + 1, math.MaxInt32, 1 << 32, 1<<32 + 1, 1<<32 + 11, math.MaxInt - 1, math.MaxInt}
}

func asked(t *testing.T, name string, ask func(int) (int, bool), n, want int, is bool) {
	t.Helper()
	if got, ok := ask(n); got != want || ok != is {
		t.Fatalf("%s(%d) = %d, %t, want %d, %t", name, n, got, ok, want, is)
	}
}

// moved is a row, with first added to each.
func moved(row []int, first int) []int {
	list := slices.Clone(row)
	for k := range list {
		list[k] += first
	}
	return list
}

func TestP13_1NoSuchRow(t *testing.T) {
	for _, n := range append(far(), -513, -512, -4, -2, -1, 0, 513, 514, 767, 768, 1024, 1025) {
		for _, key := range edges() {
			if row := strew.Order(n, key); len(row) != 0 {
				t.Errorf("Order(%d, %d) has %d places, want none", n, key, len(row))
			}
		}
	}
}

func TestP13_1OnePlace(t *testing.T) {
	for _, key := range edges() {
		same(t, 1, key, []int{0})
	}
}

func TestP13_1WorkedOut(t *testing.T) {
	same(t, 2, 0, []int{0, 1})
	same(t, 2, 1, []int{0, 1})
	same(t, 2, 13, []int{1, 0})
	same(t, 2, greatest, []int{0, 1})
	same(t, 3, 1, []int{2, 1, 0})
	same(t, 5, greatest, []int{3, 4, 2, 0, 1})
	same(t, 8, 0, []int{4, 0, 7, 1, 5, 2, 6, 3})
	same(t, 8, 1, []int{0, 2, 6, 7, 3, 5, 4, 1})
	same(t, 8, greatest, []int{7, 3, 1, 4, 6, 2, 0, 5})
	same(t, 12, 1<<31, []int{9, 1, 0, 11, 2, 10, 3, 8, 5, 6, 4, 7})
	for key, want := range map[uint32][]int{0: {91, 307, 8, 482, 243}, 1: {332, 92, 413, 480, 89}, greatest: {122, 299, 253, 483, 397}} {
		row := strew.Order(api.MaxHost, key)
		if len(row) != api.MaxHost || !slices.Equal(slices.Concat(row[:3], row[510:]), want) {
			t.Errorf("Order(%d, %d) = %v, want of its ends %v", api.MaxHost, key, row, want)
		}
	}
}

func TestP13_1EveryNumberOfPlaces(t *testing.T) {
	for _, key := range []uint32{0, 1, greatest} {
		xs := allDrawn(key, api.MaxHost)
		for n := 1; n <= api.MaxHost; n++ {
			same(t, n, key, read(n, xs))
		}
	}
}

func TestP13_1ManyKeys(t *testing.T) {
	x := rand.New(rand.NewSource(131))
	keys := edges()
	for range 300 {
		keys = append(keys, x.Uint32()>>x.Intn(32))
	}
	for _, key := range keys {
		xs := allDrawn(key, 80)
		for _, n := range []int{2, 3, 4, 63, 64, 65, 1 + x.Intn(80)} {
			same(t, n, key, read(n, xs))
		}
	}
}

func TestP13_1EachPlaceOnce(t *testing.T) {
	for n := 1; n <= api.MaxHost; n++ {
		for _, key := range edges() {
			row := strew.Order(n, key)
			if len(row) != n {
				t.Fatalf("Order(%d, %d) has %d places", n, key, len(row))
			}
			once(t, row, 0)
		}
	}
}

func TestP13_1KeysTellRowsApart(t *testing.T) {
	seen := map[[24]int]uint32{}
	for _, key := range edges() {
		row := [24]int(strew.Order(24, key))
		if other, is := seen[row]; is {
			t.Errorf("the keys %d and %d strew alike", key, other)
		}
		seen[row] = key
	}
}

func TestP13_1RowIsTheCallersOwn(t *testing.T) {
	for _, n := range []int{1, 2, 4, 64, api.MaxHost} {
		a := strew.Order(n, 7)
		kept := slices.Clone(a)
		b := strew.Order(n, 7)
		clear(a[:cap(a)])
		strew.Order(n, 8)
		if !slices.Equal(b, kept) {
			t.Errorf("Order(%d, 7) = %v behind what was done to another row, want %v", n, b, kept)
		}
		same(t, n, 7, kept)
	}
}

func TestP13_2NumbersThatAreRefused(t *testing.T) {
	for _, frames := range append(far(), -64, -1, 0, 65, 66, 127, 128, 256, 257, 511, 512, 513) {
		for _, first := range append(far(), -1, 0, 1, 10, 447, 448, 511, 512) {
			refused(t, frames, first)
		}
	}
	for frames := 1; frames <= api.MaxFrames; frames++ {
		last := api.MaxHost - frames
		for _, first := range append(far(), -513, -512, -65, -64, -2, -1, -frames, last+1, last+2, 512, 513, 1024, math.MaxInt-frames, math.MaxInt-frames+1, math.MaxInt-frames+2) {
			refused(t, frames, first)
		}
	}
}

func TestP13_2NumbersThatAreTaken(t *testing.T) {
	for frames := 1; frames <= api.MaxFrames; frames++ {
		last := api.MaxHost - frames
		for _, first := range []int{0, 1, 10, last / 2, last - 1, last} {
			for _, key := range []uint32{0, 1, greatest} {
				if n := len(of(t, frames, first, key).List()); n != frames {
					t.Errorf("New(%d, %d, %d) has %d frames", frames, first, key, n)
				}
			}
		}
	}
}

func TestP13_2AsRead(t *testing.T) {
	for _, key := range edges() {
		xs := allDrawn(key, api.MaxFrames)
		for frames := 1; frames <= api.MaxFrames; frames++ {
			row := read(frames, xs)
			for _, first := range []int{0, 1, 77, api.MaxHost - frames} {
				lies(t, of(t, frames, first, key), moved(row, first))
			}
		}
	}
}

func TestP13_2AsOrder(t *testing.T) {
	x := rand.New(rand.NewSource(132))
	for range 300 {
		frames, key := 1+x.Intn(api.MaxFrames), x.Uint32()
		first := x.Intn(api.MaxHost - frames + 1)
		lies(t, of(t, frames, first, key), moved(strew.Order(frames, key), first))
	}
}

func TestP13_2EachItsOwn(t *testing.T) {
	a, b := of(t, 5, 3, 9), of(t, 5, 3, 9)
	c := of(t, 5, 4, 10)
	want := moved(strew.Order(5, 9), 3)
	lies(t, c, moved(strew.Order(5, 10), 4))
	clear(a.List())
	refused(t, 5, -1)
	lies(t, a, want)
	lies(t, b, want)
}

func TestP13_3ThereAndBack(t *testing.T) {
	for frames := 1; frames <= api.MaxFrames; frames++ {
		for _, first := range []int{0, 200, api.MaxHost - frames} {
			m := of(t, frames, first, uint32(frames)*77)
			for k := range frames {
				h, is := m.Host(k)
				if !is {
					t.Fatalf("%d frames from %d on: no Host(%d)", frames, first, k)
				}
				asked(t, "Guest", m.Guest, h, k, true)
			}
			for h := first; h < first+frames; h++ {
				k, is := m.Guest(h)
				if !is {
					t.Fatalf("%d frames from %d on: no Guest(%d)", frames, first, h)
				}
				asked(t, "Host", m.Host, k, h, true)
			}
		}
	}
}

func TestP13_3Beside(t *testing.T) {
	for frames := 1; frames <= api.MaxFrames; frames++ {
		for _, first := range []int{0, 1, 65, api.MaxHost - frames} {
			m := of(t, frames, first, 5)
			for _, k := range append(far(), -frames, -1, frames, frames+1, first+frames+64) {
				asked(t, "Host", m.Host, k, 0, false)
			}
			for _, h := range append(far(), -frames, -1, first-1, first-2, first+frames, first+frames+1) {
				asked(t, "Guest", m.Guest, h, 0, false)
			}
		}
	}
}

func TestP13_3ListIsInTheGuestsOrder(t *testing.T) {
	m := of(t, 8, 100, greatest)
	want := []int{107, 103, 101, 104, 106, 102, 100, 105}
	if got := m.List(); !slices.Equal(got, want) {
		t.Errorf("List = %v, want %v", got, want)
	}
}

func TestP13_3ListIsTheCallersOwn(t *testing.T) {
	for _, frames := range []int{1, 3, 8, api.MaxFrames} {
		m := of(t, frames, 20, 3)
		a, b := m.List(), m.List()
		want := slices.Clone(a)
		for k := range a[:cap(a)] {
			a[:cap(a)][k] = -1
		}
		_ = append(a, 1, 2, 3)
		if !slices.Equal(b, want) {
			t.Errorf("a List = %v behind what was done to another one, want %v", b, want)
		}
		lies(t, m, want)
	}
}

func TestP13_3AsksTurnNothing(t *testing.T) {
	m := of(t, 6, 2, 8)
	want := m.List()
	for range 3 {
		lies(t, m, want)
	}
}

func TestP13_4Unmade(t *testing.T) {
	for name, m := range map[string]*strew.Map{"a nil Map": nil, "a Map that New did not make": {}} {
		t.Run(name, func(t *testing.T) {
			lies(t, m, nil)
			asked(t, "Host", m.Host, 0, 0, false)
			asked(t, "Guest", m.Guest, 0, 0, false)
			if list := m.List(); len(list) != 0 {
				t.Errorf("List = %v, want none", list)
			}
		})
	}
}

func TestP13_5OnesOwnAndNoTwoOne(t *testing.T) {
	x := rand.New(rand.NewSource(135))
	for frames := 1; frames <= api.MaxFrames; frames++ {
		for _, key := range append(edges(), x.Uint32(), x.Uint32(), x.Uint32()) {
			first := x.Intn(api.MaxHost - frames + 1)
			m, hosts := of(t, frames, first, key), []int(nil)
			for k := range frames {
				h, is := m.Host(k)
				if !is {
					t.Fatalf("New(%d, %d, %d): no Host(%d)", frames, first, key, k)
				}
				hosts = append(hosts, h)
			}
			once(t, hosts, first)
			once(t, m.List(), first)
		}
	}
}

func TestExamples(t *testing.T) {
	for k, want := range []uint64{1013904223, 1196435762, 3519870697} {
		if x := drawn(0, k+1); x != want {
			t.Errorf("x is %d behind %d moves, want %d", x, k+1, want)
		}
	}
	same(t, 4, 0, []int{1, 2, 0, 3})
	m := of(t, 4, 10, 0)
	asked(t, "Host", m.Host, 0, 11, true)
	asked(t, "Guest", m.Guest, 10, 2, true)
	asked(t, "Guest", m.Guest, 9, 0, false)
}
