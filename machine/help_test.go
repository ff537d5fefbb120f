package machine_test

import (
	"bytes"
	"fmt"
	"math/rand"
	"reflect"
	"slices"
	"testing"

	"mummer/api"
	"mummer/isa"
	"mummer/machine"
	"mummer/ram"
)

func made(t *testing.T, frames int, image []byte, s api.State, script []api.Event, disk []byte) *machine.Machine {
	t.Helper()
	m, e := machine.New(frames, image, s, script, disk)
	if m == nil || e != api.OK {
		t.Fatalf("New(%d, %d bytes, %+v): %v, %d", frames, len(image), s, m != nil, int(e))
	}
	return m
}

// both is a machine, and the test's own reading of it.
func both(t *testing.T, frames int, image []byte, s api.State, script []api.Event, disk []byte) (*machine.Machine, *paper) {
	t.Helper()
	m := made(t, frames, image, s, script, disk)
	p := newPaper(append(bytes.Clone(image), make([]byte, 64*frames-len(image))...), s, script, disk)
	p.hold(t, m)
	return m, p
}

func memory(t *testing.T, frames int) *ram.RAM {
	t.Helper()
	r, e := ram.New(frames)
	if e != api.OK {
		t.Fatal(int(e))
	}
	return r
}

func loaded(t *testing.T, x api.Saved) *machine.Machine {
	t.Helper()
	m, e := machine.Load(x)
	if m == nil || e != api.OK {
		t.Fatalf("Load: %v, %d", m != nil, int(e))
	}
	return m
}

// row is as many bytes of which none is 0, and which lie apart by a start.
func row(n, start int) []byte {
	b := make([]byte, n)
	for k := range b {
		b[k] = byte((k+start)%251 + 1)
	}
	return b
}

func flat(r *ram.RAM) []byte {
	var b []byte
	for n := 0; uint32(64*n) < r.Size(); n++ {
		b = append(b, r.Frame(n)...)
	}
	return b
}

// program is the bytes of instructions, one behind the other.
func program(t *testing.T, list ...api.Ins) []byte {
	t.Helper()
	var b []byte
	for _, i := range list {
		piece, e := isa.Encode(i, false)
		if e != api.OK {
			t.Fatalf("%+v: %d", i, int(e))
		}
		b = append(b, piece...)
	}
	return b
}

// laid is an image of so many frames with pieces at their places.
func laid(frames int, pieces map[int][]byte) []byte {
	b := make([]byte, 64*frames)
	for at, piece := range pieces {
		copy(b[at:], piece)
	}
	return b
}

func setWord(b []byte, at, w uint32) {
	for k := range uint32(4) {
		b[at+k] = byte(w >> (8 * k))
	}
}

func getWord(b []byte, at uint32) uint32 {
	return uint32(b[at]) | uint32(b[at+1])<<8 | uint32(b[at+2])<<16 | uint32(b[at+3])<<24
}

// differs says in what two saved ones differ; empty: in nothing. No list and an
// empty one are the same.
func differs(got, want api.Saved) string {
	for _, c := range []struct {
		name string
		a, b []byte
	}{{"Mem", got.Mem, want.Mem}, {"Out", got.Out, want.Out}, {"Disk", got.Disk, want.Disk}, {"Queue", got.Queue, want.Queue}} {
		if !bytes.Equal(c.a, c.b) {
			return fmt.Sprintf("%s is % x, want % x", c.name, c.a, c.b)
		}
	}
	if !slices.Equal(got.Script, want.Script) || !slices.Equal(got.Notes, want.Notes) {
		return fmt.Sprintf("Script, Notes are %v, %v, want %v, %v", got.Script, got.Notes, want.Script, want.Notes)
	}
	if a, b := bare(got), bare(want); !reflect.DeepEqual(a, b) {
		return fmt.Sprintf("%+v, want %+v", a, b)
	}
	return ""
}

// bare is what has no lists any more.
func bare(x api.Saved) api.Saved {
	x.Mem, x.Out, x.Disk, x.Queue, x.Script, x.Notes = nil, nil, nil, nil, nil, nil
	return x
}

// faults says in what a machine differs from the paper by every call that turns
// nothing; empty: in nothing.
func (p *paper) faults(m *machine.Machine) string {
	if got := m.State(); got != p.s {
		return fmt.Sprintf("State is %+v, want %+v", got, p.s)
	}
	if got := m.Steps(); got != p.steps {
		return fmt.Sprintf("Steps is %d, want %d", got, p.steps)
	}
	if got := m.Notes(); !slices.Equal(got, p.notes) {
		return fmt.Sprintf("Notes is %v, want %v", got, p.notes)
	}
	n, is := m.Next()
	if want, wantIs := p.next(p.steps); n != want || is != wantIs {
		return fmt.Sprintf("Next is %d, %t, want %d, %t", n, is, want, wantIs)
	}
	for _, c := range []struct {
		name      string
		got, want []byte
	}{{"RAM", flat(m.RAM()), p.mem}, {"Output", m.Output(), p.out}, {"Disk", m.Disk(), p.disk}} {
		if !bytes.Equal(c.got, c.want) {
			return fmt.Sprintf("%s is % x, want % x", c.name, c.got, c.want)
		}
	}
	if fault := differs(m.Save(), p.save()); fault != "" {
		return "saved: " + fault
	}
	return ""
}

func (p *paper) hold(t *testing.T, m *machine.Machine) {
	t.Helper()
	if fault := p.faults(m); fault != "" {
		t.Fatal(fault)
	}
}

// ones lets both do one instruction, and holds them against each other.
func ones(t *testing.T, m *machine.Machine, p *paper) api.Fault {
	t.Helper()
	got, want := m.One(), p.one()
	if got != want {
		t.Fatalf("One is %+v, want %+v", got, want)
	}
	p.hold(t, m)
	return got
}

// runs lets both make steps.
func runs(t *testing.T, m *machine.Machine, p *paper, n int) int {
	t.Helper()
	got, want := m.Run(n), p.run(n)
	if got != want {
		t.Fatalf("Run(%d) is %d, want %d", n, got, want)
	}
	p.hold(t, m)
	return got
}

// comes lets events come for both.
func comes(t *testing.T, m *machine.Machine, p *paper) ([]api.Event, []int) {
	t.Helper()
	events, frames := m.Come()
	wantEvents, wantFrames := p.comes()
	if !slices.Equal(events, wantEvents) || !slices.Equal(frames, wantFrames) {
		t.Fatalf("Come is %v, %v, want %v, %v", events, frames, wantEvents, wantFrames)
	}
	p.hold(t, m)
	return events, frames
}

// taken lets both take an interrupt.
func taken(t *testing.T, m *machine.Machine, p *paper) bool {
	t.Helper()
	got, want := m.Take(), p.takes()
	if got != want {
		t.Fatalf("Take is %t, want %t", got, want)
	}
	p.hold(t, m)
	return got
}

func delivers(t *testing.T, m *machine.Machine, p *paper, f api.Fault) {
	t.Helper()
	m.Deliver(f)
	p.deliver(f.Cause, f.Addr)
	p.hold(t, m)
}

func puts(t *testing.T, m *machine.Machine, p *paper, s api.State, more int) {
	t.Helper()
	m.Put(s, more)
	p.s = s
	if more > 0 {
		p.steps += more
	}
	p.hold(t, m)
}

// operations are all that a guest may have.
func operations() []uint8 {
	var list []uint8
	for op := range 256 {
		if length(byte(op)) > 0 {
			list = append(list, uint8(op))
		}
	}
	return list
}

// drawIns is the bytes of an instruction; a few of them are none.
func drawIns(x *rand.Rand, ops []uint8) []byte {
	if x.Intn(60) == 0 {
		return []byte{byte(x.Intn(256)), byte(x.Intn(256))}
	}
	i := api.Ins{Op: ops[x.Intn(len(ops))], A: uint8(x.Intn(8)), B: uint8(x.Intn(8)), Imm: int32(4 * (x.Intn(24) - 8))}
	if i.Op == api.OHlt && x.Intn(6) > 0 {
		i.Op = api.ONop
	}
	if i.Op == api.OLdi {
		i.Imm = int32(drawNumber(x))
	}
	for _, j := range []api.Ins{i, {Op: i.Op, A: i.A, Imm: i.Imm}, {Op: i.Op, A: i.A, B: i.B}, {Op: i.Op, Imm: i.Imm}, {Op: i.Op, A: i.A}, {Op: i.Op}} {
		if b, e := isa.Encode(j, false); e == api.OK {
			return b
		}
	}
	return []byte{0}
}

func drawNumber(x *rand.Rand) uint32 {
	switch x.Intn(8) {
	case 0:
		return x.Uint32()
	case 1:
		return []uint32{0, 1, 2, 3, 7, 0x7fffffff, 0x80000000, 0xffffffff, 0xfffffffc, 16384, 16380, 16385}[x.Intn(12)]
	case 2:
		return uint32(x.Intn(1024))
	}
	return uint32(4 * x.Intn(256))
}

func drawScript(x *rand.Rand) []api.Event {
	script := make([]api.Event, x.Intn(65))
	at := 0
	for k := range script {
		at += x.Intn(9)
		script[k] = api.Event{At: max(at-x.Intn(6), 0), Kind: x.Intn(3)}
		if script[k].Kind == 1 {
			script[k].Byte = byte(x.Intn(256))
		}
	}
	return script
}

// drawImage is a memory with a directory at 0, tables in frames 1 and 2, and
// instructions elsewhere.
func drawImage(x *rand.Rand, frames int) []byte {
	var b []byte
	ops := operations()
	for len(b) < 64*frames {
		b = append(b, drawIns(x, ops)...)
	}
	b = b[:64*frames]
	if frames < 4 {
		return b
	}
	for k := range uint32(16) {
		setWord(b, 4*k, 64*uint32(1+x.Intn(2))|drawBits(x))
	}
	for k := range uint32(32) {
		setWord(b, 64+4*k, 64*uint32(x.Intn(frames+1))|drawBits(x))
	}
	return b
}

// drawBits is the bits of an entry: as a rule all is let.
func drawBits(x *rand.Rand) uint32 {
	if x.Intn(4) == 0 {
		return uint32(x.Intn(64))
	}
	return 7
}

func drawState(x *rand.Rand, frames int) api.State {
	var s api.State
	for k := range s.R {
		s.R[k] = drawNumber(x)
	}
	for k := range s.CR {
		s.CR[k] = drawNumber(x)
	}
	s.CR[0] = uint32(x.Intn(64))
	if x.Intn(8) == 0 {
		s.CR[0] = drawNumber(x)
	}
	s.CR[1] = uint32(x.Intn(64 * frames))
	s.PC = uint32(x.Intn(64 * frames))
	s.PS = x.Uint32() & 0xf7
	s.CR[3] = x.Uint32() & 0xff
	return s
}
