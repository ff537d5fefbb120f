package machine_test

import (
	"bytes"
	"math"
	"math/rand"
	"slices"
	"testing"

	"mummer/api"
	"mummer/dev"
	"mummer/machine"
	"mummer/ram"
)

// rich is all of a guest of three frames, with a busy disk.
func rich() api.Saved {
	x := api.Saved{Frames: 3, Mem: row(192, 17), Steps: 70}
	x.S = api.State{PC: 0x44, PS: 0xf3}
	x.S.R = [8]uint32{1, 2, 3, 4, 5, 6, 7, 8}
	x.S.CR = [8]uint32{64, 128, 3, 4, 5, 6, 7, 8}
	x.Notes = []api.Note{{At: 3, Cause: 9, Back: 4}, {At: -7, Cause: -1, Back: 1, Addr: 2}}
	x.Out, x.Disk, x.Queue = []byte{1, 2, 3}, row(128, 90), []byte{7, 8}
	x.Script = []api.Event{{At: 80}, {At: 71, Kind: 2}, {At: 90, Kind: 1, Byte: 3}}
	x.Bits, x.Mask, x.Block, x.Addr, x.Status = 5, 2, 9, 10, 1
	x.Kind, x.From, x.To = 1, 1, 64
	return x
}

// copied is x with lists of its own.
func copied(x api.Saved) api.Saved {
	x.Mem, x.Out, x.Disk, x.Queue = bytes.Clone(x.Mem), bytes.Clone(x.Out), bytes.Clone(x.Disk), bytes.Clone(x.Queue)
	x.Script, x.Notes = slices.Clone(x.Script), slices.Clone(x.Notes)
	return x
}

// paperOf is the test's own reading of what was saved.
func paperOf(x api.Saved) *paper {
	x = copied(x)
	return &paper{mem: x.Mem, s: x.S, steps: x.Steps, notes: x.Notes, ledger: ledger{
		script: x.Script, found: x.Queue, out: x.Out, disk: x.Disk, waits: x.Bits, masked: x.Mask,
		block: x.Block, addr: x.Addr, status: x.Status, given: [3]uint32{x.Kind, x.From, x.To},
	}}
}

func TestP12_7SaveOfANewOne(t *testing.T) {
	for _, frames := range []int{1, 2, 64} {
		s := api.State{PC: 3, PS: 0xf7, Halted: frames == 2}
		script, disk := []api.Event{{At: 4}, {Kind: 1, Byte: 5}}, row(64, 3)
		image := row(64*frames-3, 8)
		x := made(t, frames, image, s, script, disk).Save()
		want := api.Saved{Frames: frames, Mem: append(bytes.Clone(image), 0, 0, 0), S: s, Script: script, Disk: disk}
		if fault := differs(x, want); fault != "" {
			t.Error(fault)
		}
	}
	m, e := machine.Over(memory(t, 512), api.State{}, nil, nil)
	if x := m.Save(); e != api.OK || x.Frames != 512 || len(x.Mem) != 512*64 {
		t.Errorf("%d, %d frames, %d bytes", int(e), x.Frames, len(x.Mem))
	}
}

func TestP12_7SavedAndLoadedIsTheSame(t *testing.T) {
	x := rich()
	m := loaded(t, x)
	if fault := differs(m.Save(), rich()); fault != "" {
		t.Error(fault)
	}
	if fault := differs(x, rich()); fault != "" {
		t.Errorf("what was handed in has turned: %s", fault)
	}
	paperOf(x).hold(t, m)
	if m.RAM().Size() != 192 {
		t.Errorf("%d bytes", m.RAM().Size())
	}
	empty := loaded(t, api.Saved{Frames: 1, Mem: make([]byte, 64)})
	newPaper(make([]byte, 64), api.State{}, nil, nil).hold(t, empty)
	halted := loaded(t, api.Saved{Frames: 1, Mem: make([]byte, 64), S: api.State{Halted: true}})
	if halted.Step() || !halted.State().Halted {
		t.Error("a halted one goes on")
	}
}

func TestP12_7LoadKeepsNothingOfTheCallers(t *testing.T) {
	x := rich()
	m, p := loaded(t, x), paperOf(x)
	for _, b := range [][]byte{x.Mem, x.Out, x.Disk, x.Queue} {
		clear(b)
	}
	clear(x.Notes)
	clear(x.Script)
	p.hold(t, m)
	runs(t, m, p, 30)
	other := copied(m.Save())
	one, two := loaded(t, other), loaded(t, other)
	p = paperOf(other)
	one.Run(20)
	one.RAM().Fill(0, make([]byte, 192))
	p.hold(t, two)
	p.hold(t, m)
	x = rich()
	x.Notes = append(make([]api.Note, 0, 9), x.Notes...) // spare room
	m = loaded(t, x)
	m.Deliver(api.Fault{Cause: 3})
	if spare := x.Notes[:3]; spare[2] != (api.Note{}) {
		t.Errorf("the spare room is %v", spare)
	}
}

// wrong turns what was saved into what no machine is, by one fault.
type wrong struct {
	name string
	turn func(x *api.Saved)
	want api.Errno
}

// wrongs are those of the machine, and then those of its devices.
func wrongs() []wrong {
	return []wrong{
		{"no frame", func(x *api.Saved) { x.Frames, x.Mem = 0, nil }, api.ErrArg},
		{"no frame, but bytes", func(x *api.Saved) { x.Frames = 0 }, api.ErrArg},
		{"frames below 0", func(x *api.Saved) { x.Frames = -1 }, api.ErrArg},
		{"the least of frames", func(x *api.Saved) { x.Frames = math.MinInt }, api.ErrArg},
		{"65 frames", func(x *api.Saved) { x.Frames, x.Mem = 65, make([]byte, 65*64) }, api.ErrArg},
		{"the most frames", func(x *api.Saved) { x.Frames = math.MaxInt }, api.ErrArg},
		{"frames whose bytes are modulo 2^64 right", func(x *api.Saved) { x.Frames = 1<<58 + 3 }, api.ErrArg},
		{"no bytes", func(x *api.Saved) { x.Mem = nil }, api.ErrArg},
		{"a byte too few", func(x *api.Saved) { x.Mem = x.Mem[:191] }, api.ErrArg},
		{"a byte too many", func(x *api.Saved) { x.Mem = append(x.Mem, 0) }, api.ErrArg},
		{"a frame too many", func(x *api.Saved) { x.Frames = 2 }, api.ErrArg},
		{"bit 3 of PS", func(x *api.Saved) { x.S.PS |= 8 }, api.ErrArg},
		{"bit 8 of PS", func(x *api.Saved) { x.S.PS |= 256 }, api.ErrArg},
		{"bit 31 of PS", func(x *api.Saved) { x.S.PS |= 1 << 31 }, api.ErrArg},
		{"steps below 0", func(x *api.Saved) { x.Steps = -1 }, api.ErrArg},
		{"the least of steps", func(x *api.Saved) { x.Steps = math.MinInt }, api.ErrArg},
		{"steps beyond 2^40", func(x *api.Saved) { x.Steps = 1<<40 + 1 }, api.ErrArg},
		{"the most steps", func(x *api.Saved) { x.Steps = math.MaxInt }, api.ErrArg},
		{"65 events", func(x *api.Saved) { x.Script = make([]api.Event, 65) }, api.ErrLong},
		{"a disk of 33 blocks", func(x *api.Saved) { x.Disk = make([]byte, 33*64) }, api.ErrLong},
		{"an event that may not be", func(x *api.Saved) { x.Script[1].Kind = 3 }, api.ErrArg},
		{"a disk of half a block", func(x *api.Saved) { x.Disk = x.Disk[:32] }, api.ErrArg},
		{"33 bytes in the queue", func(x *api.Saved) { x.Queue = make([]byte, 33) }, api.ErrLong},
		{"Bits of 8", func(x *api.Saved) { x.Bits = 8 }, api.ErrArg},
		{"Mask of 8", func(x *api.Saved) { x.Mask = 8 }, api.ErrArg},
		{"Status of 3", func(x *api.Saved) { x.Status = 3 }, api.ErrArg},
		{"busy without a command", func(x *api.Saved) { x.Kind = 0 }, api.ErrArg},
		{"a command of an idle disk", func(x *api.Saved) { x.Status = 0 }, api.ErrArg},
	}
}

func TestP12_7SingleFaults(t *testing.T) {
	for _, c := range wrongs() {
		x := rich()
		c.turn(&x)
		was := copied(x)
		if m, e := machine.Load(x); m != nil || e != c.want {
			t.Errorf("Load, %s: %v, %d", c.name, m != nil, int(e))
		}
		r := memory(t, 3)
		r.Fill(0, row(192, 200))
		if m, e := machine.Resume(r, x); m != nil || e != c.want {
			t.Errorf("Resume, %s: %v, %d", c.name, m != nil, int(e))
		}
		if !bytes.Equal(flat(r), row(192, 200)) {
			t.Errorf("Resume, %s: something was laid", c.name)
		}
		if fault := differs(x, was); fault != "" {
			t.Errorf("%s: %s", c.name, fault)
		}
	}
}

// TestP12_7SeveralFaults: those of the machine come ahead of its devices', no
// memory ahead of all.
func TestP12_7SeveralFaults(t *testing.T) {
	list := wrongs()
	own := slices.IndexFunc(list, func(c wrong) bool { return c.name == "65 events" })
	for _, second := range list[own:] {
		for k, first := range list {
			x := rich()
			second.turn(&x)
			first.turn(&x)
			want := api.ErrArg
			if k >= own {
				_, want = dev.Load(x)
			}
			if m, e := machine.Load(x); (m != nil) != (want == api.OK) || e != want {
				t.Errorf("Load, %s, %s: %v, %d", first.name, second.name, m != nil, int(e))
			}
			for _, r := range []*ram.RAM{nil, {}} {
				if m, e := machine.Resume(r, x); m != nil || e != api.ErrNil {
					t.Errorf("Resume over nothing, %s, %s: %v, %d", first.name, second.name, m != nil, int(e))
				}
			}
		}
	}
}

func TestP12_7Edges(t *testing.T) {
	for _, steps := range []int{0, 1, 1<<31 - 1, 1 << 31, 1<<40 - 1, 1 << 40} {
		x := rich()
		x.Steps, x.Script = steps, nil
		m, p := loaded(t, x), paperOf(x)
		p.hold(t, m)
		runs(t, m, p, 3)
	}
	for _, frames := range []int{1, 2, 63, 64} {
		x := rich()
		x.Frames, x.Mem = frames, row(64*frames, frames)
		paperOf(x).hold(t, loaded(t, x))
	}
	x := rich()
	x.Notes = make([]api.Note, 5000) // no limit is told of these here
	x.Out = make([]byte, 70000)
	paperOf(x).hold(t, loaded(t, x))
}

// TestP12_7WhatIsRefusedIsSavedAllTheSame: Put takes any state and any number of
// steps.
func TestP12_7WhatIsRefusedIsSavedAllTheSame(t *testing.T) {
	m, p := both(t, 1, nil, api.State{}, nil, nil)
	puts(t, m, p, api.State{PS: 8}, 0)
	if o, e := machine.Load(m.Save()); o != nil || e != api.ErrArg {
		t.Errorf("%v, %d", o != nil, int(e))
	}
	puts(t, m, p, api.State{}, 1<<40)
	loaded(t, m.Save())
	puts(t, m, p, api.State{}, 1)
	if o, e := machine.Load(m.Save()); o != nil || e != api.ErrArg {
		t.Errorf("%v, %d", o != nil, int(e))
	}
}

func TestP12_7WhatWasLoadedGoesOn(t *testing.T) {
	x := rand.New(rand.NewSource(4))
	for range 150 {
		frames := 4 + x.Intn(5)
		m, p := both(t, frames, drawImage(x, frames), drawState(x, frames), drawScript(x), drawDisk(x))
		for range 6 {
			runs(t, m, p, x.Intn(30))
			saved := m.Save()
			other := loaded(t, saved)
			p.hold(t, other)
			n := x.Intn(20)
			if a, b := m.Run(n), other.Run(n); a != b {
				t.Fatalf("Run(%d) is %d, of the loaded one %d", n, a, b)
			}
			if fault := differs(other.Save(), m.Save()); fault != "" {
				t.Fatal(fault)
			}
			p.run(n)
			if x.Intn(2) == 0 {
				m = other
			}
		}
	}
}

func TestP12_7Resume(t *testing.T) {
	whole := memory(t, 6)
	whole.Fill(0, row(384, 120))
	w, e := whole.Window([]int{5, 0, 3})
	if e != api.OK {
		t.Fatal(int(e))
	}
	x := rich()
	m, e := machine.Resume(w, x)
	if e != api.OK || m.RAM() != w {
		t.Fatalf("%v, %d", m != nil, int(e))
	}
	p := paperOf(x)
	p.hold(t, m)
	if fault := differs(x, rich()); fault != "" {
		t.Errorf("what was handed in has turned: %s", fault)
	}
	clear(x.Mem)
	clear(x.Notes)
	p.hold(t, m)
	runs(t, m, p, 40)
	for _, n := range []int{1, 2, 4} {
		if !bytes.Equal(whole.Frame(n), row(384, 120)[64*n:64*n+64]) {
			t.Errorf("frame %d has turned", n)
		}
	}
	if !bytes.Equal(whole.Frame(5), p.mem[:64]) || !bytes.Equal(whole.Frame(0), p.mem[64:128]) || !bytes.Equal(whole.Frame(3), p.mem[128:]) {
		t.Error("not written through")
	}
}

func TestP12_7ResumeOverAnother(t *testing.T) {
	for _, frames := range []int{1, 2, 4, 64, 65, 512} {
		for _, turn := range []func(x *api.Saved){func(*api.Saved) {}, func(x *api.Saved) { x.Queue = make([]byte, 33) }} {
			r := memory(t, frames)
			r.Fill(0, row(64*frames, 1))
			x := rich()
			turn(&x)
			if m, e := machine.Resume(r, x); m != nil || e != api.ErrArg {
				t.Errorf("%d frames: %v, %d", frames, m != nil, int(e))
			}
			if !bytes.Equal(flat(r), row(64*frames, 1)) {
				t.Errorf("%d frames: something was laid", frames)
			}
		}
	}
	for _, r := range []*ram.RAM{nil, {}} {
		if m, e := machine.Resume(r, rich()); m != nil || e != api.ErrNil {
			t.Errorf("over nothing: %v, %d", m != nil, int(e))
		}
	}
	// As many frames as x has, but more than a guest may have.
	x := rich()
	x.Frames, x.Mem = 65, make([]byte, 65*64)
	if m, e := machine.Resume(memory(t, 65), x); m != nil || e != api.ErrArg {
		t.Errorf("65 frames: %v, %d", m != nil, int(e))
	}
}
