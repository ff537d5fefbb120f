package dev_test

import (
	"bytes"
	"fmt"
	"math"
	"math/rand"
	"reflect"
	"slices"
	"testing"

	"mummer/api"
	"mummer/dev"
	"mummer/ram"
)

const greatest = math.MaxUint32

// ledger is the test's own reading of the chapter, by plain numbers: the whole
// script and how much of it has come, all bytes that found room and how many of
// them were read, the disk as texts by their numbers, the bits as truths. Its
// memory is a row of bytes.
type ledger struct {
	script              []api.Event
	came                int
	found               []byte
	read                int
	out                 []byte
	disk                map[uint64]string
	waits, masked       [3]bool
	block, addr, status uint32
	given               [3]uint32
}

func newLedger(script []api.Event, disk []byte) *ledger {
	l := &ledger{script: script, disk: map[uint64]string{}}
	for n := 0; 64*n < len(disk); n++ {
		l.disk[uint64(n)] = string(disk[64*n : 64*n+64])
	}
	return l
}

func number(truths [3]bool) uint32 {
	n := uint32(0)
	for k, is := range truths {
		if is {
			n += []uint32{1, 2, 4}[k]
		}
	}
	return n
}

func truths(n uint32) [3]bool { return [3]bool{n%2 == 1, n/2%2 == 1, n/4%2 == 1} }

func (l *ledger) next(step int) (int, bool) {
	if l.came == len(l.script) {
		return 0, false
	}
	from := 0
	if step > 0 {
		from = step
	}
	if at := l.script[l.came].At; at > from {
		return at - from, true
	}
	return 0, true
}

func (l *ledger) come(step int, mem []byte) ([]api.Event, []int) {
	var events []api.Event
	var frames []int
	for l.came < len(l.script) && l.script[l.came].At <= step {
		e := l.script[l.came]
		l.came++
		events = append(events, api.Event{At: step, Kind: e.Kind, Byte: e.Byte})
		switch e.Kind {
		case 0:
			l.waits[0] = true
		case 1:
			l.waits[1] = true
			if len(l.found)-l.read != 32 {
				l.found = append(l.found, e.Byte)
			}
		case 2:
			if l.status == 1 {
				l.waits[2] = true
				frames = append(frames, l.move(mem)...)
			}
		}
	}
	return events, frames
}

func (l *ledger) move(mem []byte) []int {
	kind, from, to := l.given[0], uint64(l.given[1]), uint64(l.given[2])
	l.given = [3]uint32{}
	text, is := l.disk[from]
	if !is || to%64 != 0 || to+64 > uint64(len(mem)) {
		l.status = 2
		return nil
	}
	l.status = 0
	if kind == 2 {
		l.disk[from] = string(mem[to : to+64])
		return nil
	}
	copy(mem[to:], text)
	return []int{int(to / 64)}
}

func (l *ledger) wants(ps uint32) int {
	for k := range 3 {
		if ps/2%2 == 1 && l.waits[k] && !l.masked[k] {
			return 9 + k
		}
	}
	return 0
}

func (l *ledger) taken(cause int) {
	if cause >= 9 && cause <= 11 {
		l.waits[cause-9] = false
	}
}

func (l *ledger) in(port int) uint32 {
	switch port {
	case 0:
		if l.read == len(l.found) {
			return greatest
		}
		return uint32(l.found[l.read])
	case 1:
		return uint32(len(l.found) - l.read)
	case 2:
		return l.block
	case 3:
		return l.addr
	case 4:
		return l.status
	case 5:
		return number(l.masked)
	case 6:
		return number(l.waits)
	case 7:
		return uint32(len(l.disk))
	}
	return 0
}

func (l *ledger) readPort(port int) uint32 {
	v := l.in(port)
	if port == 0 && l.read < len(l.found) {
		l.read++
	}
	return v
}

func (l *ledger) write(port int, v uint32) {
	switch port {
	case 0:
		l.out = append(l.out, byte(v%256))
	case 2:
		l.block = v
	case 3:
		l.addr = v
	case 4:
		if l.status != 1 && (v == 1 || v == 2) {
			l.given, l.status = [3]uint32{v, l.block, l.addr}, 1
		}
	case 5:
		l.masked = truths(v % 8)
	case 6:
		for k, is := range truths(v % 8) {
			l.waits[k] = l.waits[k] && !is
		}
	}
}

func (l *ledger) diskBytes() []byte {
	var b []byte
	for n := range len(l.disk) {
		b = append(b, l.disk[uint64(n)]...)
	}
	return b
}

func (l *ledger) save() api.Saved {
	return api.Saved{
		Out: l.out, Disk: l.diskBytes(), Queue: l.found[l.read:], Script: l.script[l.came:],
		Bits: number(l.waits), Mask: number(l.masked), Block: l.block, Addr: l.addr, Status: l.status,
		Kind: l.given[0], From: l.given[1], To: l.given[2],
	}
}

// clone is a ledger that goes its own way.
func (l *ledger) clone() *ledger {
	other := *l
	other.found, other.out = bytes.Clone(l.found), bytes.Clone(l.out)
	other.disk = map[uint64]string{}
	for n, text := range l.disk {
		other.disk[n] = text
	}
	return &other
}

// differs says in what two saved ones differ; empty: in nothing. No list and an
// empty one are the same.
func differs(got, want api.Saved) string {
	for _, c := range []struct {
		name string
		a, b []byte
	}{{"Mem", got.Mem, want.Mem}, {"Out", got.Out, want.Out}, {"Disk", got.Disk, want.Disk}, {"Queue", got.Queue, want.Queue}} {
		if !bytes.Equal(c.a, c.b) {
			return fmt.Sprintf("%s is % x, want % x", c.name, c.a, c.b)
		}
	}
	if !slices.Equal(got.Script, want.Script) || !slices.Equal(got.Notes, want.Notes) {
		return fmt.Sprintf("Script, Notes are %v, %v, want %v, %v", got.Script, got.Notes, want.Script, want.Notes)
	}
	if a, b := bare(got), bare(want); !reflect.DeepEqual(a, b) {
		return fmt.Sprintf("%+v, want %+v", a, b)
	}
	return ""
}

// bare is what has no lists any more.
func bare(x api.Saved) api.Saved {
	x.Mem, x.Out, x.Disk, x.Queue, x.Script, x.Notes = nil, nil, nil, nil, nil, nil
	return x
}

// faults says in what devices differ from a ledger by every call that turns
// nothing; empty: in nothing.
func (l *ledger) faults(d *dev.Dev) string {
	for _, port := range ports() {
		if got, want := d.In(port), l.in(port); got != want {
			return fmt.Sprintf("In(%d) is %d, want %d", port, got, want)
		}
	}
	for _, step := range []int{math.MinInt, -1, 0, 1, 3, 10, 1 << 30, math.MaxInt} {
		n, is := d.Next(step)
		if want, wantIs := l.next(step); n != want || is != wantIs {
			return fmt.Sprintf("Next(%d) is %d, %t, want %d, %t", step, n, is, want, wantIs)
		}
	}
	for _, ps := range []uint32{0, 2, 0xfffffffd, greatest} {
		if got, want := d.Wants(ps), l.wants(ps); got != want {
			return fmt.Sprintf("Wants(%#x) is %d, want %d", ps, got, want)
		}
	}
	if got := d.Output(); !bytes.Equal(got, l.out) {
		return fmt.Sprintf("Output is % x, want % x", got, l.out)
	}
	if got, want := d.Disk(), l.diskBytes(); !bytes.Equal(got, want) {
		return fmt.Sprintf("Disk is % x, want % x", got, want)
	}
	if fault := differs(d.Save(), l.save()); fault != "" {
		return "saved: " + fault
	}
	return ""
}

func (l *ledger) hold(t *testing.T, d *dev.Dev) {
	t.Helper()
	if fault := l.faults(d); fault != "" {
		t.Fatal(fault)
	}
}

// ports are all that there are, and some that are not.
func ports() []int {
	return []int{0, 1, 2, 3, 4, 5, 6, 7, 8, 9, -1, -2, -7, -8, 255, 256, math.MinInt32, math.MaxInt32, math.MinInt, math.MinInt + 6, math.MaxInt}
}

// values are numbers that may be written to a port.
func values() []uint32 {
	return []uint32{0, 1, 2, 3, 4, 5, 6, 7, 8, 9, 10, 15, 63, 64, 65, 128, 255, 256, 257, 258, 0x141, 0xfff8, 1 << 16, 1<<31 - 1, 1 << 31, 1<<31 + 1, 1<<31 + 2, greatest - 7, greatest - 1, greatest}
}

func made(t *testing.T, script []api.Event, disk []byte) *dev.Dev {
	t.Helper()
	d, e := dev.New(script, disk)
	if d == nil || e != api.OK {
		t.Fatalf("New of %d events, %d bytes: %v, %d", len(script), len(disk), d != nil, int(e))
	}
	return d
}

func loaded(t *testing.T, x api.Saved) *dev.Dev {
	t.Helper()
	d, e := dev.Load(x)
	if d == nil || e != api.OK {
		t.Fatalf("Load(%+v): %v, %d", x, d != nil, int(e))
	}
	return d
}

// row is as many bytes of which none is 0, and which lie apart by a start.
func row(n, start int) []byte {
	b := make([]byte, n)
	for k := range b {
		b[k] = byte((k+start)%251 + 1)
	}
	return b
}

// memory is one of so many frames, with the same bytes beside it.
func memory(t *testing.T, frames int) (*ram.RAM, []byte) {
	t.Helper()
	r, e := ram.New(frames)
	if e != api.OK {
		t.Fatal(int(e))
	}
	mem := row(64*frames, 100)
	r.Fill(0, mem)
	return r, mem
}

// flat is all bytes of a memory.
func flat(r *ram.RAM) []byte {
	var b []byte
	for n := 0; uint32(64*n) < r.Size(); n++ {
		b = append(b, r.Frame(n)...)
	}
	return b
}

// comes lets events come for both, and holds what they tell and do against each
// other.
func comes(t *testing.T, d *dev.Dev, l *ledger, step int, r *ram.RAM, mem []byte) ([]api.Event, []int) {
	t.Helper()
	events, frames := d.Come(step, r)
	wantEvents, wantFrames := l.come(step, mem)
	if !slices.Equal(events, wantEvents) || !slices.Equal(frames, wantFrames) {
		t.Fatalf("Come(%d) is %v, %v, want %v, %v", step, events, frames, wantEvents, wantFrames)
	}
	if !bytes.Equal(flat(r), mem) {
		t.Fatalf("behind Come(%d) the memory is % x, want % x", step, flat(r), mem)
	}
	l.hold(t, d)
	return events, frames
}

func writes(d *dev.Dev, l *ledger, port int, v uint32) {
	d.Write(port, v)
	l.write(port, v)
}

// commands gives a command to both: the block, the address, and what is done.
func commands(d *dev.Dev, l *ledger, kind, block, addr uint32) {
	writes(d, l, 2, block)
	writes(d, l, 3, addr)
	writes(d, l, 4, kind)
}

func drawEvents(r *rand.Rand) []api.Event {
	script := make([]api.Event, r.Intn(65))
	at := 0
	for k := range script {
		at += r.Intn(4)
		e := api.Event{At: max(at-r.Intn(6), 0), Kind: r.Intn(3)}
		if e.Kind == 1 {
			e.Byte = byte(r.Intn(256))
		}
		script[k] = e
	}
	return script
}

func drawValue(r *rand.Rand) uint32 {
	switch r.Intn(4) {
	case 0:
		return values()[r.Intn(len(values()))]
	case 1:
		return r.Uint32()
	case 2:
		return 64 * uint32(r.Intn(6))
	}
	return uint32(r.Intn(8))
}

// does lets both do one drawn call.
func does(t *testing.T, x *rand.Rand, d *dev.Dev, l *ledger, step int, r *ram.RAM, mem []byte) {
	t.Helper()
	switch x.Intn(8) {
	case 0, 1:
		comes(t, d, l, step-x.Intn(3), r, mem)
	case 2:
		cause := x.Intn(14) - 1
		d.Taken(cause)
		l.taken(cause)
	case 3, 4:
		port := x.Intn(3) * x.Intn(5)
		if got, want := d.Read(port), l.readPort(port); got != want {
			t.Fatalf("Read(%d) is %d, want %d", port, got, want)
		}
	case 5:
		commands(d, l, uint32(x.Intn(4)), uint32(x.Intn(5)), 64*uint32(x.Intn(5)))
	default:
		writes(d, l, x.Intn(10)-1, drawValue(x))
	}
}
