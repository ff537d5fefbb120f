package pool_test

import (
	"math"
	"math/big"
	"math/rand"
	"slices"
	"testing"

	"mummer/api"
	"mummer/pool"
)

func of(t *testing.T, first, n int) *pool.Pool {
	t.Helper()
	p, e := pool.New(first, n)
	if p == nil || e != api.OK {
		t.Fatalf("New(%d, %d) = %v, %d, want a pool, 0", first, n, p != nil, int(e))
	}
	return p
}

// far are numbers of no frame, among them such as lose what is above 8, 16 or 32
// bits to one.
func far() []int {
	return []int{math.MinInt, math.MinInt + 1, math.MinInt + 10, math.MinInt + 512, -1 << 32, -1<<32 + 1, math.MinInt32, -1 << 16, 1 << 16, 1<<16 + 1, math.MaxInt32 - 511, math.MaxInt32, 1 << 32, 1<<32 + 1, 1<<32 + 11, math.MaxInt - 512, math.MaxInt - 511, math.MaxInt - 1, math.MaxInt}
}

// may is the test's own reading of P14.1, among numbers of any size.
func may(first, n int) bool {
	a, b := big.NewInt(int64(first)), big.NewInt(int64(n))
	sum := new(big.Int).Add(a, b)
	return a.Sign() >= 0 && b.Sign() >= 0 && sum.Cmp(big.NewInt(api.MaxHost)) <= 0
}

// judged asks New for a pool, and that it is made or refused as the chapter says.
func judged(t *testing.T, first, n int) {
	t.Helper()
	p, e := pool.New(first, n)
	if !may(first, n) {
		if p != nil || e != api.ErrArg {
			t.Fatalf("New(%d, %d) = %v, %d, want nil, %d", first, n, p != nil, int(e), int(api.ErrArg))
		}
		return
	}
	if p == nil || e != api.OK {
		t.Fatalf("New(%d, %d) = %v, %d, want a pool, 0", first, n, p != nil, int(e))
	}
	left(t, p, n)
	counted(t, p, 0, 0)
}

func takes(t *testing.T, p *pool.Pool, frames ...int) {
	t.Helper()
	for _, want := range frames {
		if f, is := p.Take(); f != want || !is {
			t.Fatalf("Take = %d, %t, want %d, true", f, is, want)
		}
	}
}

// fails asks that so many takes lend nothing.
func fails(t *testing.T, p *pool.Pool, times int) {
	t.Helper()
	for range times {
		if f, is := p.Take(); f != 0 || is {
			t.Fatalf("Take = %d, %t, want 0, false", f, is)
		}
	}
}

func gives(t *testing.T, p *pool.Pool, want bool, frames ...int) {
	t.Helper()
	for _, f := range frames {
		if is := p.Give(f); is != want {
			t.Fatalf("Give(%d) = %t, want %t", f, is, want)
		}
	}
}

func left(t *testing.T, p *pool.Pool, want int) {
	t.Helper()
	if n := p.Left(); n != want {
		t.Fatalf("Left = %d, want %d", n, want)
	}
}

func counted(t *testing.T, p *pool.Pool, took, failed int) {
	t.Helper()
	if a, b := p.Counts(); a != took || b != failed {
		t.Fatalf("Counts = %d, %d, want %d, %d", a, b, took, failed)
	}
}

// row is the numbers of n frames from first on.
func row(first, n int) []int {
	list := make([]int, n)
	for k := range list {
		list[k] = first + k
	}
	return list
}

// unmade are the pools that New did not make.
func unmade() map[string]*pool.Pool {
	return map[string]*pool.Pool{"a nil Pool": nil, "a Pool that New did not make": {}}
}

// call is one that turns what is lent. A take's frame is the one that it lent,
// or -1.
type call struct {
	name  string
	frame int
}

// past is the test's own reading of P14.2 and P14.3: nothing but the calls that
// there were, in their order, which are asked from the last one back.
type past struct {
	first, n int
	calls    []call
}

func (h *past) lent(frame int) bool {
	for _, c := range slices.Backward(h.calls) {
		switch {
		case c.name == "Reset":
			return false
		case c.frame == frame && c.name == "Take":
			return true
		case c.frame == frame && c.name == "Give":
			return false
		}
	}
	return false
}

// idle are the frames that are not lent, the greatest one ahead.
func (h *past) idle() []int {
	var list []int
	for f := h.first + h.n - 1; f >= h.first; f-- {
		if !h.lent(f) {
			list = append(list, f)
		}
	}
	return list
}

func (h *past) take() (int, bool) {
	list := h.idle()
	if len(list) == 0 {
		h.calls = append(h.calls, call{"Take", -1})
		return 0, false
	}
	f := list[len(list)-1]
	h.calls = append(h.calls, call{"Take", f})
	return f, true
}

func (h *past) give(frame int) bool {
	is := h.lent(frame)
	h.calls = append(h.calls, call{"Give", frame})
	return is
}

func (h *past) counts() (took, failed int) {
	for _, c := range h.calls {
		switch {
		case c.name == "Take" && c.frame < 0:
			failed++
		case c.name == "Take":
			took++
		}
	}
	return took, failed
}

// both does one call of the pool and of the test's reading, and holds what they
// answer, and what they have come to, against each other.
func both(t *testing.T, p *pool.Pool, h *past, c call) {
	t.Helper()
	switch c.name {
	case "Take":
		f, is := p.Take()
		if want, wanted := h.take(); f != want || is != wanted {
			t.Fatalf("behind %v: Take = %d, %t, want %d, %t", h.calls, f, is, want, wanted)
		}
	case "Give":
		is := p.Give(c.frame)
		if want := h.give(c.frame); is != want {
			t.Fatalf("behind %v: Give(%d) = %t, want %t", h.calls, c.frame, is, want)
		}
	case "Reset":
		p.Reset()
		h.calls = append(h.calls, c)
	}
	if n, want := p.Left(), len(h.idle()); n != want {
		t.Fatalf("behind %v: Left = %d, want %d", h.calls, n, want)
	}
	took, failed := h.counts()
	if a, b := p.Counts(); a != took || b != failed {
		t.Fatalf("behind %v: Counts = %d, %d, want %d, %d", h.calls, a, b, took, failed)
	}
}

func TestP14_1EachPairOfNumbers(t *testing.T) {
	for first := -2; first <= api.MaxHost+2; first++ {
		for n := -2; n <= api.MaxHost+2; n++ {
			judged(t, first, n)
		}
	}
}

func TestP14_1NumbersAtTheEnds(t *testing.T) {
	numbers := append(far(), -513, -512, -64, -2, -1, 0, 1, 2, 64, 511, 512, 513, 514, 1023, 1024)
	for _, a := range numbers {
		for _, b := range numbers {
			judged(t, a, b)
		}
	}
	// Sums that come round, or just do not.
	for k := range 1100 {
		judged(t, math.MaxInt, k)
		judged(t, k, math.MaxInt)
		judged(t, math.MaxInt-k, k+1)
		judged(t, math.MinInt+k, k)
		judged(t, k, math.MinInt+k)
		judged(t, -k, 512)
		judged(t, 512, -k)
		judged(t, -k, k)
	}
}

func TestP14_1LastOneThatMayBe(t *testing.T) {
	for first := 0; first <= api.MaxHost; first++ {
		p := of(t, first, api.MaxHost-first)
		left(t, p, api.MaxHost-first)
		if q, e := pool.New(first, api.MaxHost-first+1); q != nil || e != api.ErrArg {
			t.Errorf("New(%d, %d) = %v, %d, want nil, %d", first, api.MaxHost-first+1, q != nil, int(e), int(api.ErrArg))
		}
	}
}

func TestP14_1NoneIsLent(t *testing.T) {
	for _, x := range [][2]int{{0, 1}, {0, 5}, {7, 2}, {100, 64}, {511, 1}, {0, api.MaxHost}} {
		p := of(t, x[0], x[1])
		gives(t, p, false, row(-3, api.MaxHost+6)...)
		left(t, p, x[1])
		counted(t, p, 0, 0)
	}
}

func TestP14_1NoFrames(t *testing.T) {
	for first := 0; first <= api.MaxHost; first++ {
		p := of(t, first, 0)
		left(t, p, 0)
		fails(t, p, 2)
		gives(t, p, false, 0, first, first-1, first+1)
		p.Reset()
		fails(t, p, 1)
		left(t, p, 0)
		counted(t, p, 0, 3)
	}
}

func TestP14_1EachItsOwn(t *testing.T) {
	a, b := of(t, 3, 4), of(t, 3, 4)
	takes(t, a, 3, 4)
	left(t, b, 4)
	gives(t, b, false, 3, 4)
	takes(t, b, 3)
	gives(t, a, true, 3)
	left(t, b, 3)
	b.Reset()
	left(t, a, 3)
	gives(t, a, true, 4)
	takes(t, b, 3, 4, 5, 6)
	fails(t, b, 2)
	counted(t, a, 2, 0)
	counted(t, b, 5, 2)
}

func TestP14_2EveryNumberOfFrames(t *testing.T) {
	for n := 0; n <= api.MaxHost; n++ {
		for _, first := range []int{0, (api.MaxHost - n) / 2, api.MaxHost - n} {
			p := of(t, first, n)
			for k, f := range row(first, n) {
				left(t, p, n-k)
				takes(t, p, f)
			}
			left(t, p, 0)
			fails(t, p, 2)
			left(t, p, 0)
			gives(t, p, true, row(first, n)...)
			left(t, p, n)
			gives(t, p, false, row(first, n)...)
			left(t, p, n)
		}
	}
}

func TestP14_2TheLeastOne(t *testing.T) {
	// Whatever was given, and in whatever order, what is taken then is rising.
	x := rand.New(rand.NewSource(142))
	for range 400 {
		n := 1 + x.Intn(80)
		first := x.Intn(api.MaxHost - n + 1)
		p := of(t, first, n)
		takes(t, p, row(first, n)...)
		back := x.Perm(n)[:x.Intn(n+1)]
		for k := range back {
			back[k] += first
		}
		gives(t, p, true, back...)
		left(t, p, len(back))
		slices.Sort(back)
		takes(t, p, back...)
		fails(t, p, 1)
	}
}

func TestP14_2LeastWhileSomeAreLeft(t *testing.T) {
	p := of(t, 20, 6)
	takes(t, p, 20, 21, 22)
	gives(t, p, true, 21)
	takes(t, p, 21, 23)
	gives(t, p, true, 22, 20)
	takes(t, p, 20, 22, 24)
	gives(t, p, true, 24)
	takes(t, p, 24, 25)
	fails(t, p, 1)
	left(t, p, 0)
}

func TestP14_2TakeBehindGive(t *testing.T) {
	for _, n := range []int{1, 2, 3, 64, api.MaxHost} {
		first := (api.MaxHost - n) / 2
		p := of(t, first, n)
		takes(t, p, row(first, n)...)
		for _, f := range row(first, n) {
			fails(t, p, 1)
			gives(t, p, true, f)
			left(t, p, 1)
			takes(t, p, f)
			left(t, p, 0)
		}
	}
}

func TestP14_2GiveTwice(t *testing.T) {
	p := of(t, 0, 3)
	takes(t, p, 0, 1)
	gives(t, p, true, 0)
	gives(t, p, false, 0, 0)
	left(t, p, 2)
	takes(t, p, 0, 2)
	gives(t, p, true, 0, 1, 2)
	gives(t, p, false, 0, 1, 2)
	left(t, p, 3)
}

func TestP14_2GiveOfNoneOfThePools(t *testing.T) {
	for _, x := range [][2]int{{0, 3}, {7, 2}, {300, 64}, {508, 4}, {0, api.MaxHost}} {
		first, n := x[0], x[1]
		p := of(t, first, n)
		others := append(far(), -first-1, -n-1, -1, first-1, first+n, first+n+1, first+n+64, 512, 513, 1024)
		for k := range n {
			gives(t, p, false, append(others, first+k)...)
			left(t, p, n-k)
			takes(t, p, first+k)
		}
		gives(t, p, false, others...)
		left(t, p, 0)
		fails(t, p, 1)
		gives(t, p, true, row(first, n)...)
		gives(t, p, false, others...)
		left(t, p, n)
		takes(t, p, row(first, n)...)
	}
}

func TestP14_2NoFrameOfAnotherIsLentByAGive(t *testing.T) {
	// What was given, though it is none of the pool's, is not lent later on.
	p := of(t, 10, 2)
	gives(t, p, false, 9, 12, 0, -1)
	takes(t, p, 10, 11)
	gives(t, p, false, 9, 12, 0, -1)
	fails(t, p, 3)
	left(t, p, 0)
}

func TestP14_2Reset(t *testing.T) {
	for _, n := range []int{0, 1, 2, 5, 64, api.MaxHost} {
		for _, lent := range []int{0, 1, n / 2, n - 1, n} {
			if lent < 0 || n < lent {
				continue
			}
			first := api.MaxHost - n
			p := of(t, first, n)
			takes(t, p, row(first, lent)...)
			p.Reset()
			left(t, p, n)
			gives(t, p, false, row(first, n)...)
			left(t, p, n)
			takes(t, p, row(first, n)...)
			fails(t, p, 1)
			p.Reset()
			p.Reset()
			left(t, p, n)
			takes(t, p, row(first, n)...)
			left(t, p, 0)
		}
	}
}

func TestP14_2LeftTurnsNothing(t *testing.T) {
	p := of(t, 3, 3)
	takes(t, p, 3)
	for range 3 {
		left(t, p, 2)
		counted(t, p, 1, 0)
	}
	takes(t, p, 4, 5)
}

func TestP14_2AsRead(t *testing.T) {
	// Every row of five calls of small pools, on each of their frames and on those beside them.
	for _, n := range []int{0, 1, 2, 3} {
		all := []call{{"Take", -1}, {"Reset", -1}}
		for f := 4; f <= 5+n; f++ {
			all = append(all, call{"Give", f})
		}
		rows := 1
		for range 5 {
			rows *= len(all)
		}
		for which := range rows {
			p, h := of(t, 5, n), &past{first: 5, n: n}
			for k := which; len(h.calls) < 5; k /= len(all) {
				both(t, p, h, all[k%len(all)])
			}
		}
	}
}

func TestP14_3Counts(t *testing.T) {
	p := of(t, 7, 2)
	counted(t, p, 0, 0)
	takes(t, p, 7)
	counted(t, p, 1, 0)
	takes(t, p, 8)
	counted(t, p, 2, 0)
	fails(t, p, 1)
	counted(t, p, 2, 1)
	fails(t, p, 1)
	counted(t, p, 2, 2)
	gives(t, p, true, 8)
	takes(t, p, 8)
	counted(t, p, 3, 2)
	counted(t, p, 3, 2)
}

func TestP14_3OnlyTakesCount(t *testing.T) {
	p := of(t, 7, 2)
	takes(t, p, 7, 8)
	fails(t, p, 1)
	turns := []func(){
		func() { p.Give(7) },
		func() { p.Give(7) },
		func() { p.Give(6) },
		func() { p.Left() },
		p.Reset,
		func() { p.Give(8) },
		p.Reset,
		func() { p.Left() },
	}
	for k, turn := range turns {
		turn()
		if a, b := p.Counts(); a != 2 || b != 1 {
			t.Errorf("behind turn %d Counts = %d, %d, want 2, 1", k, a, b)
		}
	}
}

func TestP14_3SinceNew(t *testing.T) {
	// A Reset takes frames back, not what was counted.
	p := of(t, 0, 3)
	for k := 1; k <= 50; k++ {
		takes(t, p, 0, 1, 2)
		fails(t, p, 2)
		p.Reset()
		counted(t, p, 3*k, 2*k)
	}
	counted(t, of(t, 0, 3), 0, 0)
}

func TestP14_3Many(t *testing.T) {
	p := of(t, 9, 1)
	for k := range 70000 {
		takes(t, p, 9)
		fails(t, p, 1+k%2)
		gives(t, p, true, 9)
	}
	counted(t, p, 70000, 105000)
}

func TestP14_4Unmade(t *testing.T) {
	for name, p := range unmade() {
		t.Run(name, func(t *testing.T) {
			for range 2 {
				left(t, p, 0)
				counted(t, p, 0, 0)
				gives(t, p, false, append(far(), -1, 0, 1, 511, 512)...)
				fails(t, p, 3)
				counted(t, p, 0, 0)
				left(t, p, 0)
				p.Reset()
				counted(t, p, 0, 0)
				left(t, p, 0)
				fails(t, p, 1)
				gives(t, p, false, 0)
			}
		})
	}
}

func TestP14_5LongRows(t *testing.T) {
	x := rand.New(rand.NewSource(145))
	for _, n := range []int{1, 2, 3, 7, 20} {
		for range 40 {
			first := x.Intn(api.MaxHost - n + 1)
			p, h := of(t, first, n), &past{first: first, n: n}
			for range 150 {
				c := call{"Take", -1}
				switch k := x.Intn(40); {
				case k == 0:
					c.name = "Reset"
				case k < 16:
					c = call{"Give", first - 1 + x.Intn(n+2)}
				}
				both(t, p, h, c)
			}
		}
	}
}

func TestP14_5NoFrameTwiceAndAsManyAsThereAre(t *testing.T) {
	// Told from the answers alone: each holder notes what it was lent, and no reading says which frame that must be.
	x := rand.New(rand.NewSource(146))
	for _, n := range []int{0, 1, 5, 64, api.MaxHost} {
		first := x.Intn(api.MaxHost - n + 1)
		p := of(t, first, n)
		held, most := map[int]int{}, 0
		for range 12*n + 20 {
			if f, is := p.Take(); is {
				held[f]++
				if held[f] > 1 || f < first || first+n <= f {
					t.Fatalf("New(%d, %d): the frame %d is lent, %d times at one time", first, n, f, held[f])
				}
			} else if len(held) != n {
				t.Fatalf("New(%d, %d): a Take is false, with %d lent", first, n, len(held))
			}
			most = max(most, len(held))
			if f := first + x.Intn(n+1); x.Intn(3) == 0 {
				if is := p.Give(f); is != (held[f] == 1) {
					t.Fatalf("New(%d, %d): Give(%d) = %t", first, n, f, is)
				}
				delete(held, f)
			}
			left(t, p, n-len(held))
		}
		if most != n {
			t.Errorf("New(%d, %d): %d were lent at one time at most", first, n, most)
		}
	}
}

func TestExamples(t *testing.T) {
	p := of(t, 7, 2)
	takes(t, p, 7, 8)
	fails(t, p, 1)
	gives(t, p, true, 7)
	gives(t, p, false, 7)
	left(t, p, 1)
	takes(t, p, 7)
	counted(t, p, 3, 1)
}
