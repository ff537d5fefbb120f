package machine_test

import (
	"bytes"
	"math"
	"math/rand"
	"slices"
	"testing"

	"mummer/api"
	"mummer/machine"
	"mummer/ram"
)

func TestExamples(t *testing.T) {
	m := made(t, 1, []byte{0x20, 0, 5, 0, 0, 0, 0x65, 0, 1}, api.State{}, nil, nil)
	if n := m.Run(9); n != 3 {
		t.Errorf("Run(9) is %d", n)
	}
	if b := m.Output(); !bytes.Equal(b, []byte{5}) {
		t.Errorf("Output is % x", b)
	}
	if s := m.State(); !s.Halted || s.PC != 9 || m.Step() {
		t.Errorf("State is %+v", s)
	}
	m = made(t, 1, []byte{0x19, 0}, api.State{}, nil, nil)
	if f := m.One(); f != (api.Fault{Cause: 3}) {
		t.Errorf("One is %+v", f)
	}
	if s := m.State(); s.PC != 0 || s.CR[4] != 3 || s.CR[2] != 0 {
		t.Errorf("State is %+v", s)
	}
	if l := m.Notes(); !slices.Equal(l, []api.Note{{Cause: 3}}) {
		t.Errorf("Notes is %v", l)
	}
}

func TestP12_1Frames(t *testing.T) {
	for _, n := range []int{math.MinInt, math.MinInt32, -64, -1, 0, 65, 66, 128, 512, 513, math.MaxInt32, math.MaxInt} {
		if m, e := machine.New(n, nil, api.State{}, nil, nil); m != nil || e != api.ErrArg {
			t.Errorf("New(%d): %v, %d", n, m != nil, int(e))
		}
	}
	for n := 1; n <= 64; n++ {
		m, p := both(t, n, nil, api.State{}, nil, nil)
		if m.RAM().Size() != uint32(64*n) {
			t.Errorf("New(%d) has %d bytes", n, m.RAM().Size())
		}
		runs(t, m, p, 3)
	}
}

func TestP12_1Images(t *testing.T) {
	for _, frames := range []int{1, 2, 3, 63, 64} {
		full := 64 * frames
		for _, n := range []int{0, 1, 2, full - 64, full - 1, full} {
			both(t, frames, row(n, n), api.State{}, nil, nil)
		}
		for _, n := range []int{full + 1, full + 2, full + 64, 2 * full, 70000} {
			if m, e := machine.New(frames, make([]byte, n), api.State{}, nil, nil); m != nil || e != api.ErrLong {
				t.Errorf("New(%d, %d bytes): %v, %d", frames, n, m != nil, int(e))
			}
		}
	}
}

func TestP12_1States(t *testing.T) {
	for bit := range 32 {
		ps := uint32(1) << bit
		for _, with := range []uint32{0, 0xf7} {
			m, e := machine.New(1, nil, api.State{PS: ps | with}, nil, nil)
			o, eo := machine.Over(memory(t, 1), api.State{PS: ps | with}, nil, nil)
			if ps&0xf7 != 0 {
				if e != api.OK || eo != api.OK || m.State().PS != ps|with || o.State().PS != ps|with {
					t.Errorf("PS %#x: %d, %d", ps|with, int(e), int(eo))
				}
				continue
			}
			if m != nil || o != nil || e != api.ErrArg || eo != api.ErrArg {
				t.Errorf("PS %#x: %v, %d; %v, %d", ps|with, m != nil, int(e), o != nil, int(eo))
			}
		}
	}
	x := rand.New(rand.NewSource(1))
	for range 50 {
		s := drawState(x, 4)
		s.Halted = x.Intn(2) == 0
		both(t, 4, nil, s, nil, nil)
	}
}

// refusals are scripts and disks that dev.New refuses, and what it says.
func refusals() []struct {
	script []api.Event
	disk   []byte
	want   api.Errno
} {
	return []struct {
		script []api.Event
		disk   []byte
		want   api.Errno
	}{
		{make([]api.Event, 65), nil, api.ErrLong},
		{nil, make([]byte, 33*64), api.ErrLong},
		{[]api.Event{{Kind: 3}}, nil, api.ErrArg},
		{[]api.Event{{Kind: -1}}, nil, api.ErrArg},
		{[]api.Event{{At: -1}}, nil, api.ErrArg},
		{[]api.Event{{At: 1<<30 + 1}}, nil, api.ErrArg},
		{[]api.Event{{Byte: 1}}, nil, api.ErrArg},
		{nil, make([]byte, 63), api.ErrArg},
		{[]api.Event{{Kind: 3}}, make([]byte, 33*64), api.ErrLong},
		{make([]api.Event, 65), make([]byte, 1), api.ErrLong},
	}
}

func TestP12_1Devices(t *testing.T) {
	for _, c := range refusals() {
		if m, e := machine.New(1, nil, api.State{}, c.script, c.disk); m != nil || e != c.want {
			t.Errorf("New: %d events, %d bytes: %v, %d", len(c.script), len(c.disk), m != nil, int(e))
		}
		if m, e := machine.Over(memory(t, 1), api.State{}, c.script, c.disk); m != nil || e != c.want {
			t.Errorf("Over: %d events, %d bytes: %v, %d", len(c.script), len(c.disk), m != nil, int(e))
		}
	}
	both(t, 1, nil, api.State{}, make([]api.Event, 64), row(32*64, 3))
	both(t, 1, nil, api.State{}, []api.Event{}, []byte{})
}

func TestP12_1WhichErrorComesFirst(t *testing.T) {
	for _, c := range []struct {
		frames, image int
		ps            uint32
		disk          int
		want          api.Errno
	}{
		{0, 65, 8, 2112, api.ErrArg},
		{65, 70000, 0, 0, api.ErrArg},
		{0, 1, 0, 2112, api.ErrArg},
		{1, 65, 8, 2112, api.ErrLong},
		{1, 65, 8, 1, api.ErrLong},
		{1, 65, 0, 1, api.ErrLong},
		{1, 64, 8, 2112, api.ErrArg},
		{64, 4096, 0xffffffff, 2112, api.ErrArg},
		{1, 64, 0, 2112, api.ErrLong},
		{1, 64, 0, 1, api.ErrArg},
	} {
		m, e := machine.New(c.frames, make([]byte, c.image), api.State{PS: c.ps}, nil, make([]byte, c.disk))
		if m != nil || e != c.want {
			t.Errorf("%+v: %v, %d", c, m != nil, int(e))
		}
	}
	for _, r := range []*ram.RAM{nil, {}} {
		if m, e := machine.Over(r, api.State{PS: 8}, make([]api.Event, 65), make([]byte, 1)); m != nil || e != api.ErrNil {
			t.Errorf("Over no byte: %v, %d", m != nil, int(e))
		}
	}
	if m, e := machine.Over(memory(t, 1), api.State{PS: 8}, make([]api.Event, 65), nil); m != nil || e != api.ErrArg {
		t.Errorf("Over: %v, %d", m != nil, int(e))
	}
}

func TestP12_1HandedInStaysAndIsNotKept(t *testing.T) {
	image, disk := row(200, 5), row(200, 9)
	script := []api.Event{{At: 1}, {At: 2, Kind: 1, Byte: 7}, {At: 90}}
	imageWas, diskWas, scriptWas := bytes.Clone(image), bytes.Clone(disk), slices.Clone(script)
	m, p := both(t, 2, image[:128], api.State{PC: 100}, script[:2], disk[:64])
	runs(t, m, p, 5)
	if !bytes.Equal(image, imageWas) || !bytes.Equal(disk, diskWas) || !slices.Equal(script, scriptWas) {
		t.Error("what was handed in has turned")
	}
	m, p = both(t, 2, image[:100], api.State{}, script[:2], disk[:64])
	clear(image)
	clear(disk)
	clear(script)
	p.hold(t, m)
	runs(t, m, p, 9)
}

func TestP12_1OverNothing(t *testing.T) {
	var never ram.RAM
	for _, r := range []*ram.RAM{nil, &never} {
		if m, e := machine.Over(r, api.State{}, nil, nil); m != nil || e != api.ErrNil {
			t.Errorf("Over no byte: %v, %d", m != nil, int(e))
		}
	}
}

func TestP12_1OverAMemory(t *testing.T) {
	for _, frames := range []int{1, 2, 64, 65, 512} {
		r := memory(t, frames)
		r.Fill(0, row(64*frames, 11))
		m, e := machine.Over(r, api.State{PC: 5}, nil, nil)
		if e != api.OK || m.RAM() != r {
			t.Fatalf("Over %d frames: %d", frames, int(e))
		}
		p := newPaper(row(64*frames, 11), api.State{PC: 5}, nil, nil)
		p.hold(t, m)
		r.SetByte(uint32(64*frames-1), 1) // what the memory has is what the machine does
		p.mem[64*frames-1] = 1
		s := api.State{PC: uint32(64*frames - 1)}
		puts(t, m, p, s, 0)
		if f := ones(t, m, p); f.Cause != 0 || !m.State().Halted {
			t.Errorf("%d frames: %+v, %+v", frames, f, m.State())
		}
	}
}

func TestP12_1OverAWindow(t *testing.T) {
	whole := memory(t, 6)
	whole.Fill(0, row(384, 50))
	was := flat(whole)
	w, e := whole.Window([]int{4, 1, 2})
	if e != api.OK {
		t.Fatal(int(e))
	}
	m, e := machine.Over(w, api.State{}, nil, nil)
	if e != api.OK || m.RAM() != w {
		t.Fatal(int(e))
	}
	code := program(t, api.Ins{Op: api.OSt, A: 1, B: 2, Imm: 0}, api.Ins{Op: api.OSt, A: 1, B: 3, Imm: 0}, api.Ins{Op: api.OSt, A: 1, B: 4, Imm: 0})
	w.Fill(0, code)
	p := newPaper(flat(w), api.State{}, nil, nil)
	s := api.State{}
	s.R[1], s.R[2], s.R[3], s.R[4] = 0x01020304, 64, 188, 192
	puts(t, m, p, s, 0)
	runs(t, m, p, 2)
	if f := ones(t, m, p); f != (api.Fault{Cause: api.NoWrite, Addr: 192}) {
		t.Errorf("beyond the window: %+v", f)
	}
	now := flat(whole)
	for _, n := range []int{0, 3, 5} {
		if !bytes.Equal(now[64*n:64*n+64], was[64*n:64*n+64]) {
			t.Errorf("frame %d has turned", n)
		}
	}
	if getWord(now, 64) != 0x01020304 || getWord(now, 2*64+60) != 0x01020304 {
		t.Errorf("not written through: % x", now)
	}
}

func TestP12_2Come(t *testing.T) {
	script := []api.Event{{At: 0}, {At: 2, Kind: 1, Byte: 65}, {At: 1}, {At: 7, Kind: 1, Byte: 66}, {At: 7}}
	m, p := both(t, 2, nil, api.State{}, script, nil)
	for _, more := range []int{0, 1, 1, 3, 2, 0, 5} {
		puts(t, m, p, m.State(), more)
		comes(t, m, p)
		comes(t, m, p)
	}
	if n, is := m.Next(); n != 0 || is {
		t.Errorf("Next is %d, %t", n, is)
	}
}

func TestP12_2ComeOfAHaltedMachine(t *testing.T) {
	m, p := both(t, 2, nil, api.State{Halted: true, PS: 2}, []api.Event{{}, {Kind: 1, Byte: 3}}, nil)
	if events, _ := comes(t, m, p); len(events) != 2 {
		t.Errorf("came %v", events)
	}
	if taken(t, m, p) || m.Step() {
		t.Error("a halted machine took an interrupt")
	}
}

func TestP12_2ComeTellsFrames(t *testing.T) {
	disk := row(128, 60)
	out := func(v uint32, port uint8) []api.Ins {
		return []api.Ins{{Op: api.OLdi, A: 1, Imm: int32(v)}, {Op: api.OOut, A: 1, B: port}}
	}
	code := program(t, slices.Concat(out(1, 2), out(128, 3), out(1, 4), []api.Ins{{Op: api.ONop}})...)
	m, p := both(t, 4, code, api.State{}, []api.Event{{At: 6, Kind: 2}}, disk)
	for range 6 {
		if events, frames := comes(t, m, p); len(events) != 0 || len(frames) != 0 {
			t.Fatalf("came %v, %v", events, frames)
		}
		ones(t, m, p)
	}
	events, frames := comes(t, m, p)
	if !slices.Equal(events, []api.Event{{At: 6, Kind: 2}}) || !slices.Equal(frames, []int{2}) {
		t.Errorf("came %v, %v", events, frames)
	}
	if !bytes.Equal(m.RAM().Frame(2), disk[64:]) {
		t.Errorf("frame 2 is % x", m.RAM().Frame(2))
	}
}

func TestP12_2Take(t *testing.T) {
	for waits := range uint32(8) {
		for mask := range uint32(8) {
			for _, ps := range []uint32{0, 1, 2, 3, 4, 6, 7, 0xf7, 0xf5, 0xf0} {
				for _, halted := range []bool{false, true} {
					s := api.State{PC: 0xfffffff0, PS: ps, Halted: halted}
					s.CR = [8]uint32{1, 77, 3, 4, 5, 6, 7, 8}
					s.R = [8]uint32{9, 8, 7, 6, 5, 4, 3, 2}
					x := api.Saved{Frames: 1, Mem: row(64, 1), S: s, Steps: 30, Bits: waits, Mask: mask}
					m := loaded(t, x)
					p := newPaper(x.Mem, s, nil, nil)
					p.steps, p.waits, p.masked = 30, waits, mask
					p.hold(t, m)
					is := taken(t, m, p)
					if want := !halted && ps&2 != 0 && waits&^mask != 0; is != want {
						t.Fatalf("waiting %d, masked %d, PS %#x, halted %t: %t", waits, mask, ps, halted, is)
					}
					if is && (m.State().CR[2] != 0xfffffff0 || m.State().PC != 77 || m.State().CR[5] != 0 || m.Steps() != 31) {
						t.Fatalf("State is %+v", m.State())
					}
					taken(t, m, p)
				}
			}
		}
	}
}

func TestP12_3Deliver(t *testing.T) {
	causes := []int{math.MinInt, -1 << 40, -1, 0, 1, 2, 3, 4, 5, 6, 7, 8, 9, 10, 11, 12, 255, 1<<32 + 8, 1<<40 + 3, math.MaxInt}
	for _, cause := range causes {
		for _, pc := range []uint32{0, 7, 0xfffffffe, 0xffffffff} {
			for _, halted := range []bool{false, true} {
				s := api.State{PC: pc, PS: 0xf7, Halted: halted}
				s.CR = [8]uint32{64, 0x1234, 3, 4, 5, 6, 7, 8}
				s.R = [8]uint32{1, 2, 3, 4, 5, 6, 7, 8}
				m, p := both(t, 2, row(128, 3), s, []api.Event{{}, {Kind: 1}}, nil)
				puts(t, m, p, s, 12)
				delivers(t, m, p, api.Fault{Cause: cause, Addr: 0xfedcba98})
				back := pc
				if cause == 8 {
					back += 2
				}
				want := []api.Note{{At: 12, Cause: cause, Back: back, Addr: 0xfedcba98}}
				if l := m.Notes(); !slices.Equal(l, want) || m.Steps() != 13 {
					t.Fatalf("%d at %#x: %v, %d", cause, pc, l, m.Steps())
				}
				if n := m.State(); n.R != s.R || n.PC != 0x1234 || n.PS != 0xf4 || n.CR != [8]uint32{64, 0x1234, back, 0xf7, uint32(cause), 0xfedcba98, 7, 8} {
					t.Fatalf("%d at %#x: %+v", cause, pc, n)
				}
				delivers(t, m, p, api.Fault{Cause: cause})
			}
		}
	}
}

func TestP12_5Step(t *testing.T) {
	// The tick is due at 1: nop, then the tick, which is taken ahead of the instruction at 1.
	s := api.State{PS: 2}
	s.CR[1] = 32
	m, p := both(t, 1, nil, s, []api.Event{{At: 1}, {At: 1, Kind: 1, Byte: 4}}, nil)
	for _, want := range []uint32{1, 32, 33} {
		if !m.Step() || !p.step() || m.State().PC != want {
			t.Fatalf("State is %+v, want PC %d", m.State(), want)
		}
		p.hold(t, m)
	}
	if l := m.Notes(); !slices.Equal(l, []api.Note{{At: 1, Cause: 9, Back: 1}}) {
		t.Errorf("Notes is %v", l)
	}
}

func TestP12_5StepOfAHaltedMachine(t *testing.T) {
	s := api.State{PS: 2, Halted: true}
	m, p := both(t, 1, nil, s, []api.Event{{}, {}}, nil)
	for range 3 {
		if m.Step() || m.Run(5) != 0 {
			t.Fatal("a halted machine made a step")
		}
		p.hold(t, m) // no event has come either
	}
}

func TestP12_5Run(t *testing.T) {
	code := append(make([]byte, 5), 1)
	for _, c := range []struct{ n, want int }{{math.MinInt, 0}, {-1, 0}, {0, 0}, {1, 1}, {5, 5}, {6, 6}, {7, 6}, {100, 6}, {math.MaxInt, 6}} {
		m, p := both(t, 1, code, api.State{}, nil, nil)
		if n := runs(t, m, p, c.n); n != c.want || m.Steps() != c.want {
			t.Errorf("Run(%d) is %d, Steps %d", c.n, n, m.Steps())
		}
	}
}

func TestP12_5RunOfManySteps(t *testing.T) {
	loop := program(t, api.Ins{Op: api.OAddi, A: 1, Imm: 1}, api.Ins{Op: api.OJmp, Imm: -6})
	for _, c := range []struct{ n, want int }{{4095, 4095}, {4096, 4096}, {4097, 4096}, {8192, 4096}, {math.MaxInt, 4096}} {
		m := made(t, 1, loop, api.State{}, nil, nil)
		if n := m.Run(c.n); n != c.want || m.Steps() != c.want || m.State().R[1] != uint32(c.want+1)/2 {
			t.Errorf("Run(%d) is %d, Steps %d", c.n, n, m.Steps())
		}
	}
	m, p := both(t, 1, loop, api.State{}, nil, nil)
	runs(t, m, p, 5000)
	runs(t, m, p, 5000)
	if m.Steps() != 8192 {
		t.Errorf("Steps is %d", m.Steps())
	}
}

func TestP12_6Put(t *testing.T) {
	x := rand.New(rand.NewSource(2))
	m, p := both(t, 4, drawImage(x, 4), api.State{}, []api.Event{{At: 3}, {At: 50}}, row(64, 1))
	steps := 0
	for _, more := range []int{math.MinInt, -5, -1, 0, 1, 2, 3, 0, -1, 1000, 1 << 28} {
		s := drawState(x, 4)
		s.PS = x.Uint32() // nothing is refused here
		s.Halted = x.Intn(2) == 0
		puts(t, m, p, s, more)
		steps += max(more, 0)
		if m.State() != s || m.Steps() != steps || len(m.Notes()) != 0 {
			t.Errorf("behind Put(%d): %+v, %d", more, m.State(), m.Steps())
		}
	}
}

func TestP12_6AnswersAreTheCallersOwn(t *testing.T) {
	s := api.State{}
	s.R[1] = 65
	code := program(t, api.Ins{Op: api.OOut, A: 1}, api.Ins{Op: api.ODiv}, api.Ins{Op: api.OOut, A: 1})
	m, p := both(t, 1, code, s, []api.Event{{At: 1, Kind: 1, Byte: 7}, {At: 90}}, row(128, 4))
	runs(t, m, p, 2)
	m.Run(0)
	clear(m.Notes())
	clear(m.Output())
	clear(m.Disk())
	saved := m.Save()
	for _, b := range [][]byte{saved.Mem, saved.Out, saved.Disk, saved.Queue} {
		clear(b[:cap(b)])
	}
	clear(saved.Notes)
	clear(saved.Script)
	p.hold(t, m)
	notes, out := m.Notes(), m.Output()
	runs(t, m, p, 3)
	if len(notes) != 1 || notes[0].Cause != 3 || !bytes.Equal(out, []byte{65}) {
		t.Errorf("what was answered has turned: %v, % x", notes, out)
	}
	_ = append(m.Notes(), api.Note{Cause: 99})
	_ = append(m.Output(), 99)
	runs(t, m, p, 4)
}

func TestP12_6RAMIsTheMemoryItself(t *testing.T) {
	m, p := both(t, 1, nil, api.State{}, nil, nil)
	if m.RAM() != m.RAM() {
		t.Error("two memories")
	}
	m.RAM().Fill(0, []byte{0x20, 0x10, 9, 0, 0, 0})
	copy(p.mem, []byte{0x20, 0x10, 9, 0, 0, 0})
	p.hold(t, m)
	runs(t, m, p, 1)
	if m.State().R[1] != 9 {
		t.Errorf("State is %+v", m.State())
	}
}

func TestP12_6Next(t *testing.T) {
	m, p := both(t, 1, nil, api.State{}, []api.Event{{At: 4}, {At: 1}, {At: 9}}, nil)
	for _, want := range []int{4, 3, 2, 1, 0, 4, 3, 2, 1, 0} {
		if n, is := m.Next(); n != want || !is {
			t.Errorf("at %d Next is %d, %t", m.Steps(), n, is)
		}
		runs(t, m, p, 1)
	}
	if n, is := m.Next(); n != 0 || is {
		t.Errorf("at the end Next is %d, %t", n, is)
	}
}

func TestP12_8NoMachine(t *testing.T) {
	var never machine.Machine
	for _, m := range []*machine.Machine{nil, &never, {}} {
		for range 2 {
			if m.Step() || m.Run(5) != 0 || m.Take() || m.One() != (api.Fault{}) {
				t.Error("it made a step")
			}
			if events, frames := m.Come(); len(events) != 0 || len(frames) != 0 {
				t.Errorf("came %v, %v", events, frames)
			}
			m.Deliver(api.Fault{Cause: 3, Addr: 4})
			m.Put(api.State{PC: 9, PS: 2}, 7)
			n, is := m.Next()
			if m.State() != (api.State{}) || m.Steps() != 0 || n != 0 || is {
				t.Errorf("%+v, %d, %d, %t", m.State(), m.Steps(), n, is)
			}
			if m.RAM() != nil || len(m.Output()) != 0 || len(m.Disk()) != 0 || len(m.Notes()) != 0 {
				t.Error("it has something")
			}
			if fault := differs(m.Save(), api.Saved{}); fault != "" {
				t.Error(fault)
			}
		}
	}
}
