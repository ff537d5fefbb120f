package marks_test

import (
	"math"
	"math/rand"
	"slices"
	"testing"

	"mummer/api"
	"mummer/marks"
)

func of(t *testing.T, frames int) *marks.Marks {
	t.Helper()
	m, e := marks.New(frames)
	if m == nil || e != api.OK {
		t.Fatalf("New(%d) = %v, %d, want marks, 0", frames, m != nil, int(e))
	}
	return m
}

// far are numbers of no frame and of no kind, among them such as lose what is
// above 8, 16 or 32 bits to one.
func far() []int {
	return []int{math.MinInt, math.MinInt + 1, math.MinInt + 2, math.MinInt + 64, -1 << 32, -1<<32 + 1, -1<<32 + 2, math.MinInt32, math.MinInt32 + 1, -1 << 16, -1<<16 + 1, -256, -255, -254, -65, -64, 256, 257, 258, 1 << 16, 1<<16 + 1, 1<<16 + 2, math.MaxInt32, 1 << 31, 1<<31 + 1, 1 << 32, 1<<32 + 1, 1<<32 + 2, 1<<32 + 63, math.MaxInt - 63, math.MaxInt - 2, math.MaxInt - 1, math.MaxInt}
}

// kinds are the two that there are.
func kinds() []int { return []int{marks.Code, marks.Table} }

// noKinds are numbers of no kind.
func noKinds() []int { return append(far(), -3, -2, -1, 0, 3, 4, 5, 7, 63, 64) }

// noFrames are numbers of no frame, where there are so many.
func noFrames(frames int) []int {
	return append(far(), -frames-1, -frames, -2, -1, frames, frames+1, frames+2, 2*frames, 64, 65, 128)
}

func refused(t *testing.T, frames int) {
	t.Helper()
	if m, e := marks.New(frames); m != nil || e != api.ErrArg {
		t.Errorf("New(%d) = %v, %d, want nil, %d", frames, m != nil, int(e), int(api.ErrArg))
	}
}

func marked(t *testing.T, m *marks.Marks, frame, kind int, want bool) {
	t.Helper()
	if is := m.Mark(frame, kind); is != want {
		t.Fatalf("Mark(%d, %d) = %t, want %t", frame, kind, is, want)
	}
}

// bears asks that a frame, as each ask of it tells, bears just these marks.
func bears(t *testing.T, m *marks.Marks, frame int, want ...int) {
	t.Helper()
	for _, kind := range kinds() {
		is := slices.Contains(want, kind)
		if got := m.Has(frame, kind); got != is {
			t.Fatalf("Has(%d, %d) = %t, want %t", frame, kind, got, is)
		}
		if got := slices.Contains(m.List(kind), frame); got != is {
			t.Fatalf("List(%d) = %v: of frame %d want %t", kind, m.List(kind), frame, is)
		}
	}
	if got := m.Watched(frame); got != (len(want) > 0) {
		t.Fatalf("Watched(%d) = %t, want %t", frame, got, len(want) > 0)
	}
}

func listed(t *testing.T, m *marks.Marks, kind int, want ...int) {
	t.Helper()
	if l := m.List(kind); !slices.Equal(l, want) {
		t.Fatalf("List(%d) = %v, want %v", kind, l, want)
	}
}

// bare asks that none of so many frames, and none beside them, bears a mark.
func bare(t *testing.T, m *marks.Marks, frames int) {
	t.Helper()
	for frame := -2; frame < frames+2; frame++ {
		bears(t, m, frame)
	}
	for _, kind := range kinds() {
		listed(t, m, kind)
	}
}

// unmade are the Marks that New did not make.
func unmade() map[string]*marks.Marks {
	return map[string]*marks.Marks{"nil Marks": nil, "Marks that New did not make": {}}
}

// call is one that turns marks.
type call struct {
	name        string
	frame, kind int
}

// past is the test's own reading of P15.2 and P15.3: nothing but the calls that
// there were, in their order, which are asked from the last one back.
type past struct {
	frames int
	calls  []call
}

func (h *past) is(frame, kind int) bool {
	return 0 <= frame && frame < h.frames && (kind == 1 || kind == 2)
}

func (h *past) has(frame, kind int) bool {
	if !h.is(frame, kind) {
		return false
	}
	for _, c := range slices.Backward(h.calls) {
		switch {
		case c.kind != kind:
		case c.name == "Clear":
			return false
		case c.frame == frame:
			return c.name == "Mark"
		}
	}
	return false
}

func (h *past) watched(frame int) bool { return h.has(frame, 1) || h.has(frame, 2) }

func (h *past) list(kind int) []int {
	var list []int
	for frame := range h.frames {
		if h.has(frame, kind) {
			list = append(list, frame)
		}
	}
	return list
}

// do does one call of the marks, and notes it.
func do(t *testing.T, m *marks.Marks, h *past, c call) {
	t.Helper()
	switch c.name {
	case "Mark":
		want := h.is(c.frame, c.kind) && !h.watched(c.frame)
		if is := m.Mark(c.frame, c.kind); is != want {
			t.Fatalf("behind %v: Mark(%d, %d) = %t, want %t", h.calls, c.frame, c.kind, is, want)
		}
	case "Drop":
		m.Drop(c.frame, c.kind)
	case "Clear":
		m.Clear(c.kind)
	}
	h.calls = append(h.calls, c)
}

// same holds all that marks tell against the test's reading.
func same(t *testing.T, m *marks.Marks, h *past) {
	t.Helper()
	for frame := -1; frame <= h.frames; frame++ {
		if is, want := m.Watched(frame), h.watched(frame); is != want {
			t.Fatalf("behind %v: Watched(%d) = %t, want %t", h.calls, frame, is, want)
		}
		for kind := range 4 {
			if is, want := m.Has(frame, kind), h.has(frame, kind); is != want {
				t.Fatalf("behind %v: Has(%d, %d) = %t, want %t", h.calls, frame, kind, is, want)
			}
		}
	}
	for kind := -1; kind < 5; kind++ {
		if l, want := m.List(kind), h.list(kind); !slices.Equal(l, want) {
			t.Fatalf("behind %v: List(%d) = %v, want %v", h.calls, kind, l, want)
		}
	}
}

func TestP15_1EveryNumberOfFrames(t *testing.T) {
	for frames := -300; frames <= 600; frames++ {
		if frames < 1 || frames > api.MaxFrames {
			refused(t, frames)
			continue
		}
		bare(t, of(t, frames), frames)
	}
}

func TestP15_1Edges(t *testing.T) {
	refused(t, 0)
	refused(t, -1)
	refused(t, api.MaxFrames+1)
	for _, frames := range far() {
		refused(t, frames)
	}
	of(t, 1)
	of(t, api.MaxFrames)
}

func TestP15_1JustSoManyFrames(t *testing.T) {
	for frames := 1; frames <= api.MaxFrames; frames++ {
		for _, kind := range kinds() {
			m := of(t, frames)
			for _, f := range noFrames(frames) {
				if f < 0 || f >= frames {
					marked(t, m, f, kind, false)
				}
			}
			bare(t, m, frames)
			for f := range frames {
				marked(t, m, f, kind, true)
			}
			if n := len(m.List(kind)); n != frames {
				t.Fatalf("%d frames of %d bear mark %d", n, frames, kind)
			}
		}
	}
}

func TestP15_1EachItsOwn(t *testing.T) {
	a, b := of(t, 3), of(t, 3)
	marked(t, a, 1, marks.Code, true)
	bare(t, b, 3)
	marked(t, b, 1, marks.Table, true)
	bears(t, a, 1, marks.Code)
	bears(t, b, 1, marks.Table)
	a.Clear(marks.Table)
	a.Drop(1, marks.Table)
	bears(t, b, 1, marks.Table)
	b.Clear(marks.Code)
	b.Drop(1, marks.Code)
	bears(t, a, 1, marks.Code)
}

func TestP15_1TheKinds(t *testing.T) {
	if marks.Code != 1 || marks.Table != 2 {
		t.Errorf("Code is %d, Table %d, want 1, 2", marks.Code, marks.Table)
	}
}

func TestP15_2MarkHasWatched(t *testing.T) {
	for _, frames := range []int{1, 2, 5, 63, api.MaxFrames} {
		for _, frame := range []int{0, frames / 2, frames - 1} {
			for k, kind := range kinds() {
				m := of(t, frames)
				marked(t, m, frame, kind, true)
				bears(t, m, frame, kind)
				marked(t, m, frame, kind, false)
				bears(t, m, frame, kind)
				marked(t, m, frame, kinds()[1-k], false)
				bears(t, m, frame, kinds()...)
				marked(t, m, frame, kind, false)
				marked(t, m, frame, kinds()[1-k], false)
				bears(t, m, frame, kinds()...)
			}
		}
	}
}

func TestP15_2WatchedOnlyNow(t *testing.T) {
	// What tells is whether there was a mark just ahead, not whether there ever was one.
	m := of(t, 4)
	for range 3 {
		marked(t, m, 3, marks.Code, true)
		m.Drop(3, marks.Code)
		marked(t, m, 3, marks.Table, true)
		marked(t, m, 3, marks.Code, false)
		m.Drop(3, marks.Table)
		marked(t, m, 3, marks.Table, false)
		m.Clear(marks.Code)
		marked(t, m, 3, marks.Code, false)
		m.Clear(marks.Table)
		marked(t, m, 3, marks.Table, false)
		m.Clear(marks.Code)
		m.Clear(marks.Table)
	}
}

func TestP15_2FramesThatAreNotThere(t *testing.T) {
	for _, frames := range []int{1, 2, 4, 63, api.MaxFrames} {
		m := of(t, frames)
		marked(t, m, 0, marks.Code, true)
		marked(t, m, frames-1, marks.Table, frames > 1)
		for _, f := range noFrames(frames) {
			if 0 <= f && f < frames {
				continue
			}
			for _, kind := range append(noKinds(), kinds()...) {
				marked(t, m, f, kind, false)
				if m.Has(f, kind) || m.Watched(f) {
					t.Fatalf("frame %d of %d bears mark %d, or any", f, frames, kind)
				}
			}
		}
		listed(t, m, marks.Code, 0)
		listed(t, m, marks.Table, frames-1)
	}
}

func TestP15_2KindsThatAreNotThere(t *testing.T) {
	for _, frames := range []int{1, 3, api.MaxFrames} {
		m := of(t, frames)
		for _, kind := range noKinds() {
			for f := range frames {
				marked(t, m, f, kind, false)
				if m.Has(f, kind) || m.Watched(f) {
					t.Fatalf("frame %d bears mark %d, or any", f, kind)
				}
			}
		}
		bare(t, m, frames)
		for f := range frames {
			marked(t, m, f, marks.Table, true)
			for _, kind := range noKinds() {
				marked(t, m, f, kind, false)
				if m.Has(f, kind) {
					t.Fatalf("frame %d bears mark %d", f, kind)
				}
			}
			bears(t, m, f, marks.Table)
		}
	}
}

func TestP15_2AsksTurnNothing(t *testing.T) {
	m := of(t, 3)
	marked(t, m, 1, marks.Table, true)
	for range 3 {
		bears(t, m, 0)
		bears(t, m, 1, marks.Table)
		bears(t, m, 2)
	}
	marked(t, m, 0, marks.Code, true)
	marked(t, m, 1, marks.Code, false)
}

func TestP15_3Drop(t *testing.T) {
	for _, frames := range []int{1, 2, api.MaxFrames} {
		for _, frame := range []int{0, frames / 2, frames - 1} {
			for k, kind := range kinds() {
				other := kinds()[1-k]
				m := of(t, frames)
				m.Drop(frame, kind)
				bare(t, m, frames)
				marked(t, m, frame, kind, true)
				m.Drop(frame, other)
				bears(t, m, frame, kind)
				m.Drop(frame, kind)
				bears(t, m, frame)
				m.Drop(frame, kind)
				bare(t, m, frames)
				marked(t, m, frame, kind, true)
				marked(t, m, frame, kind, false)
				marked(t, m, frame, other, false)
				// A mark that was laid twice goes by one drop.
				m.Drop(frame, kind)
				bears(t, m, frame, other)
				m.Drop(frame, other)
				bare(t, m, frames)
			}
		}
	}
}

func TestP15_3DropOfWhatIsNotThere(t *testing.T) {
	for _, frames := range []int{1, 4, api.MaxFrames} {
		m := of(t, frames)
		for f := range frames {
			m.Mark(f, marks.Code)
			m.Mark(f, marks.Table)
		}
		for _, f := range noFrames(frames) {
			if 0 <= f && f < frames {
				continue
			}
			for _, kind := range append(noKinds(), kinds()...) {
				m.Drop(f, kind)
			}
		}
		for f := range frames {
			for _, kind := range noKinds() {
				m.Drop(f, kind)
			}
			bears(t, m, f, kinds()...)
		}
	}
}

func TestP15_3Clear(t *testing.T) {
	for _, frames := range []int{1, 2, 9, api.MaxFrames} {
		for k, kind := range kinds() {
			other := kinds()[1-k]
			m := of(t, frames)
			m.Clear(kind)
			bare(t, m, frames)
			for f := range frames {
				m.Mark(f, marks.Code)
				m.Mark(f, marks.Table)
			}
			for range 2 {
				m.Clear(kind)
				for f := range frames {
					bears(t, m, f, other)
				}
			}
			for f := range frames {
				marked(t, m, f, kind, false)
				bears(t, m, f, kinds()...)
			}
			m.Clear(other)
			m.Clear(kind)
			bare(t, m, frames)
			for f := range frames {
				marked(t, m, f, kind, true)
			}
		}
	}
}

func TestP15_3ClearOfNoKind(t *testing.T) {
	m := of(t, 5)
	for f := range 5 {
		m.Mark(f, 1+f%2)
	}
	for _, kind := range noKinds() {
		m.Clear(kind)
		listed(t, m, marks.Code, 0, 2, 4)
		listed(t, m, marks.Table, 1, 3)
	}
}

func TestP15_3List(t *testing.T) {
	x := rand.New(rand.NewSource(153))
	for frames := 1; frames <= api.MaxFrames; frames++ {
		for _, kind := range kinds() {
			m := of(t, frames)
			listed(t, m, kind)
			// Whatever the order in which they were marked, they are told rising.
			some := x.Perm(frames)[:1+x.Intn(frames)]
			for _, f := range some {
				marked(t, m, f, kind, true)
			}
			slices.Sort(some)
			listed(t, m, kind, some...)
			listed(t, m, 3-kind)
			var all []int
			for f := frames - 1; f >= 0; f-- {
				m.Mark(f, kind)
				all = append(all, frames-1-f)
			}
			listed(t, m, kind, all...)
			listed(t, m, 3-kind)
		}
	}
}

func TestP15_3ListOfNoKind(t *testing.T) {
	m := of(t, api.MaxFrames)
	for f := range api.MaxFrames {
		m.Mark(f, marks.Code)
		m.Mark(f, marks.Table)
	}
	for _, kind := range noKinds() {
		listed(t, m, kind)
	}
}

func TestP15_3ListsAreTheirOwn(t *testing.T) {
	m := of(t, 6)
	for f := range 4 {
		m.Mark(f, marks.Code)
		m.Mark(f, marks.Table)
	}
	a, b, c := m.List(marks.Code), m.List(marks.Code), m.List(marks.Table)
	for k := range a {
		a[k] = 5
	}
	_ = append(a, 5, 5, 5)
	for _, l := range [][]int{b, c, m.List(marks.Code), m.List(marks.Table)} {
		if !slices.Equal(l, []int{0, 1, 2, 3}) {
			t.Errorf("a list is %v where another one was written to", l)
		}
	}
	bears(t, m, 0, kinds()...)
	bears(t, m, 5)
	// Nor is what was told turned by what comes.
	m.Clear(marks.Code)
	m.Mark(5, marks.Table)
	if !slices.Equal(b, []int{0, 1, 2, 3}) || !slices.Equal(c, []int{0, 1, 2, 3}) {
		t.Errorf("lists that were told are %v, %v", b, c)
	}
}

func TestP15_3AsRead(t *testing.T) {
	// Every row of four calls of one frame and of two, on each of their frames and kinds and on those beside them.
	for _, frames := range []int{1, 2} {
		var all []call
		for kind := range 4 {
			all = append(all, call{"Clear", 0, kind})
			for frame := range frames + 1 {
				all = append(all, call{"Mark", frame, kind}, call{"Drop", frame, kind})
			}
		}
		rows := len(all) * len(all) * len(all)
		if frames == 1 {
			rows *= len(all)
		}
		for which := range rows {
			m, h := of(t, frames), &past{frames: frames}
			for k := which; k > 0; k /= len(all) {
				do(t, m, h, all[k%len(all)])
			}
			same(t, m, h)
		}
	}
}

func TestP15_4Unmade(t *testing.T) {
	for name, m := range unmade() {
		t.Run(name, func(t *testing.T) {
			numbers := append(far(), -1, 0, 1, 2, 3, 63, 64)
			for range 2 {
				for _, frame := range numbers {
					for _, kind := range append(noKinds(), kinds()...) {
						marked(t, m, frame, kind, false)
						if m.Has(frame, kind) || m.Watched(frame) {
							t.Fatalf("frame %d bears mark %d, or any", frame, kind)
						}
						m.Drop(frame, kind)
					}
				}
				for _, kind := range append(noKinds(), kinds()...) {
					m.Clear(kind)
					listed(t, m, kind)
				}
			}
		})
	}
}

func TestP15_5OneTurnsNoOther(t *testing.T) {
	// From every kind of a state, one mark is laid or taken; all the others are as they were.
	x := rand.New(rand.NewSource(155))
	for _, frames := range []int{1, 2, 3, 8, 63, api.MaxFrames} {
		for range 60 {
			m := of(t, frames)
			is := make([][3]bool, frames)
			for f := range frames {
				for _, kind := range kinds() {
					if is[f][kind] = x.Intn(2) == 1; is[f][kind] {
						m.Mark(f, kind)
					}
				}
			}
			frame, kind := x.Intn(frames), 1+x.Intn(2)
			if lay := x.Intn(2) == 1; lay {
				marked(t, m, frame, kind, !is[frame][1] && !is[frame][2])
				is[frame][kind] = true
			} else {
				m.Drop(frame, kind)
				is[frame][kind] = false
			}
			for f := range frames {
				if m.Has(f, 1) != is[f][1] || m.Has(f, 2) != is[f][2] || m.Watched(f) != (is[f][1] || is[f][2]) {
					t.Fatalf("of %d frames, behind a turn of mark %d of frame %d, frame %d bears %t, %t, want %v", frames, kind, frame, f, m.Has(f, 1), m.Has(f, 2), is[f][1:])
				}
			}
		}
	}
}

func TestP15_5LongRows(t *testing.T) {
	x := rand.New(rand.NewSource(156))
	for _, frames := range []int{1, 2, 3, 5, 12, api.MaxFrames} {
		for range 10 {
			m, h := of(t, frames), &past{frames: frames}
			for range 120 {
				c := call{"Mark", x.Intn(frames+2) - 1, x.Intn(4)}
				switch k := x.Intn(40); {
				case k < 3:
					c = call{"Clear", 0, x.Intn(4)}
				case k < 18:
					c.name = "Drop"
				}
				do(t, m, h, c)
				if len(h.calls)%10 == 0 {
					same(t, m, h)
				}
			}
		}
	}
}

func TestExamples(t *testing.T) {
	m := of(t, 4)
	marked(t, m, 2, marks.Code, true)
	marked(t, m, 2, marks.Table, false)
	marked(t, m, 4, marks.Code, false)
	m.Drop(2, marks.Code)
	bears(t, m, 2, marks.Table)
	m.Mark(0, marks.Table)
	listed(t, m, marks.Table, 0, 2)
	m.Clear(marks.Table)
	bears(t, m, 2)
	bears(t, m, 0)
}
