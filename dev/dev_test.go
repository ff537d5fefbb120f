package dev_test

import (
	"bytes"
	"math"
	"math/rand"
	"slices"
	"testing"

	"mummer/api"
	"mummer/dev"
	"mummer/ram"
)

func TestExamples(t *testing.T) {
	d := made(t, []api.Event{{At: 3}, {At: 3, Kind: 1, Byte: 65}, {At: 1}}, nil)
	if n, is := d.Next(0); n != 3 || !is {
		t.Errorf("Next(0) is %d, %t", n, is)
	}
	if l, f := d.Come(2, nil); len(l) != 0 || len(f) != 0 {
		t.Errorf("Come(2) is %v, %v", l, f)
	}
	if n := d.Wants(api.PInt); n != 0 {
		t.Errorf("wants %d", n)
	}
	l, f := d.Come(5, nil)
	if !slices.Equal(l, []api.Event{{At: 5}, {At: 5, Kind: 1, Byte: 65}, {At: 5}}) || len(f) != 0 {
		t.Errorf("Come(5) is %v, %v", l, f)
	}
	if n := d.In(6); n != 3 {
		t.Errorf("In(6) is %d", n)
	}
	if n := d.Wants(api.PInt); n != api.Tick {
		t.Errorf("wants %d, want Tick", n)
	}
	d.Taken(api.Tick)
	if n := d.Wants(api.PInt); n != api.Typed {
		t.Errorf("wants %d, want Typed", n)
	}
	d.Write(5, 2)
	if n := d.Wants(api.PInt); n != 0 {
		t.Errorf("masked: wants %d", n)
	}
	d.Write(6, 2)
	if n := d.In(6); n != 0 {
		t.Errorf("In(6) is %d", n)
	}
	if a, b, c, e := d.In(0), d.Read(1), d.Read(0), d.Read(0); a != 65 || b != 1 || c != 65 || e != 0xffffffff {
		t.Errorf("read %d, %d, %d, %#x", a, b, c, e)
	}
	d.Write(0, 0x141)
	if b := d.Output(); !bytes.Equal(b, []byte{0x41}) {
		t.Errorf("Output is % x", b)
	}
}

func TestExampleOfTheDisk(t *testing.T) {
	disk := row(128, 7)
	d := made(t, []api.Event{{At: 4, Kind: 2}}, disk)
	d.Write(2, 1)
	d.Write(3, 64)
	d.Write(4, 1)
	if n := d.In(4); n != 1 {
		t.Errorf("In(4) is %d", n)
	}
	r, mem := memory(t, 2)
	l, f := d.Come(4, r)
	if !slices.Equal(l, []api.Event{{At: 4, Kind: 2}}) || !slices.Equal(f, []int{1}) {
		t.Errorf("Come(4) is %v, %v", l, f)
	}
	if !bytes.Equal(r.Frame(1), disk[64:]) || !bytes.Equal(r.Frame(0), mem[:64]) {
		t.Errorf("the memory is % x", flat(r))
	}
	if a, b := d.In(4), d.In(6); a != 0 || b != 4 {
		t.Errorf("In(4), In(6) are %d, %d", a, b)
	}
}

func TestP11_1Nothing(t *testing.T) {
	for _, script := range [][]api.Event{nil, {}, make([]api.Event, 0, 8)} {
		for _, disk := range [][]byte{nil, {}, make([]byte, 0, 64)} {
			d := made(t, script, disk)
			newLedger(nil, nil).hold(t, d)
			if l, f := d.Come(math.MaxInt, nil); len(l) != 0 || len(f) != 0 {
				t.Errorf("Come is %v, %v", l, f)
			}
		}
	}
}

func TestP11_1NothingWaits(t *testing.T) {
	script := []api.Event{{}, {Kind: 1, Byte: 9}, {Kind: 2}}
	for _, blocks := range []int{0, 1, 2, 31, 32} {
		disk := row(64*blocks, blocks)
		d := made(t, script, disk)
		newLedger(script, disk).hold(t, d)
		want := []uint32{greatest, 0, 0, 0, 0, 0, 0, uint32(blocks)}
		for port, v := range want {
			if n := d.In(port); n != v {
				t.Errorf("%d blocks: In(%d) is %d at first", blocks, port, n)
			}
		}
	}
}

func TestP11_1LengthOfScript(t *testing.T) {
	for n := range 70 {
		script := make([]api.Event, n)
		for k := range script {
			script[k] = api.Event{At: k, Kind: 1, Byte: byte(k)}
		}
		d, e := dev.New(script, nil)
		if n > 64 {
			if d != nil || e != api.ErrLong {
				t.Errorf("%d events: %v, %d", n, d != nil, int(e))
			}
			continue
		}
		if d == nil || e != api.OK {
			t.Fatalf("%d events: %v, %d", n, d != nil, int(e))
		}
		newLedger(script, nil).hold(t, d)
	}
	if d, e := dev.New(make([]api.Event, 100000), nil); d != nil || e != api.ErrLong {
		t.Errorf("100000 events: %v, %d", d != nil, int(e))
	}
}

func TestP11_1LengthOfDisk(t *testing.T) {
	for n := range 2200 {
		disk := row(n, n)
		d, e := dev.New(nil, disk)
		want := api.OK
		switch {
		case n > 2048:
			want = api.ErrLong
		case n%64 != 0:
			want = api.ErrArg
		}
		if e != want || (d != nil) != (want == api.OK) {
			t.Fatalf("%d bytes: %v, %d, want %d", n, d != nil, int(e), int(want))
		}
		if d != nil {
			newLedger(nil, disk).hold(t, d)
		}
	}
	for _, n := range []int{2048 + 64, 4096, 1 << 20, 1<<20 + 1} {
		if d, e := dev.New(nil, make([]byte, n)); d != nil || e != api.ErrLong {
			t.Errorf("%d bytes: %v, %d", n, d != nil, int(e))
		}
	}
}

// wrongEvents are such as no script may have, each by one fault.
func wrongEvents() []api.Event {
	return []api.Event{
		{Kind: -1}, {Kind: -2}, {Kind: 3}, {Kind: 4}, {Kind: math.MinInt}, {Kind: math.MaxInt}, {Kind: 256}, {Kind: 257, Byte: 1},
		{At: -1}, {At: -1, Kind: 1}, {At: math.MinInt, Kind: 2}, {At: 1<<30 + 1}, {At: 1<<30 + 1, Kind: 1, Byte: 3}, {At: math.MaxInt, Kind: 2}, {At: math.MaxInt32},
		{Byte: 1}, {Byte: 255}, {At: 7, Kind: 2, Byte: 1}, {Kind: 2, Byte: 128},
	}
}

func TestP11_1WrongEvents(t *testing.T) {
	for _, e := range wrongEvents() {
		for _, n := range []int{1, 2, 5, 64} {
			for _, place := range []int{0, n / 2, n - 1} {
				script := make([]api.Event, n)
				script[place] = e
				if d, err := dev.New(script, nil); d != nil || err != api.ErrArg {
					t.Errorf("%+v at %d of %d: %v, %d", e, place, n, d != nil, int(err))
				}
			}
		}
	}
}

func TestP11_1EventsThatMayBe(t *testing.T) {
	for _, at := range []int{0, 1, 2, 63, 1 << 16, 1<<30 - 1, 1 << 30} {
		for kind := range 3 {
			for _, b := range []byte{0, 1, 127, 128, 255} {
				if kind != 1 && b != 0 {
					continue
				}
				script := []api.Event{{At: at, Kind: kind, Byte: b}}
				newLedger(script, nil).hold(t, made(t, script, nil))
			}
		}
	}
}

func TestP11_1WhichErrorComesFirst(t *testing.T) {
	long, wrong := make([]api.Event, 65), []api.Event{{Kind: 3}}
	longAndWrong := make([]api.Event, 65)
	longAndWrong[0].At = -1
	for _, c := range []struct {
		name   string
		script []api.Event
		disk   []byte
		want   api.Errno
	}{
		{"a long script, odd bytes", long, make([]byte, 63), api.ErrLong},
		{"a long script, a long disk", long, make([]byte, 4096), api.ErrLong},
		{"a long script with a wrong event", longAndWrong, nil, api.ErrLong},
		{"a wrong event, a long disk", wrong, make([]byte, 2048+64), api.ErrLong},
		{"a wrong event, a long disk of odd bytes", wrong, make([]byte, 2049), api.ErrLong},
		{"a long disk of odd bytes", nil, make([]byte, 4097), api.ErrLong},
		{"a wrong event, odd bytes", wrong, make([]byte, 65), api.ErrArg},
		{"a wrong event, the greatest disk", wrong, make([]byte, 2048), api.ErrArg},
	} {
		if d, e := dev.New(c.script, c.disk); d != nil || e != c.want {
			t.Errorf("%s: %v, %d, want %d", c.name, d != nil, int(e), int(c.want))
		}
	}
}

// TestP11_1WhatIsHandedIn: who turns a script or a disk later turns nothing, and
// theirs stay as they are, with the room behind them.
func TestP11_1WhatIsHandedIn(t *testing.T) {
	whole := []api.Event{{At: 1}, {At: 2, Kind: 1, Byte: 70}, {At: 3, Kind: 2}, {At: 4, Kind: 1, Byte: 71}, {At: 99, Kind: 1, Byte: 99}}
	bytesOf := row(192, 3)
	script, disk := slices.Clone(whole), bytes.Clone(bytesOf)
	d := made(t, script[:4], disk[:128])
	l := newLedger(whole[:4], bytesOf[:128])
	r, mem := memory(t, 2)
	commands(d, l, 2, 1, 0)
	comes(t, d, l, 3, r, mem)
	if !slices.Equal(script, whole) || !bytes.Equal(disk, bytesOf) {
		t.Fatalf("what was handed in is %v, % x", script, disk)
	}
	for k := range script {
		script[k] = api.Event{At: 5, Kind: 2}
	}
	for k := range disk {
		disk[k] = 255
	}
	l.hold(t, d)
	comes(t, d, l, 100, r, mem)
}

func TestP11_1EachItsOwn(t *testing.T) {
	script, disk := []api.Event{{At: 1, Kind: 1, Byte: 5}, {At: 2, Kind: 2}}, row(64, 1)
	a, b := made(t, script, disk), made(t, script, disk)
	l, still := newLedger(script, disk), newLedger(script, disk)
	r, mem := memory(t, 1)
	commands(a, l, 2, 0, 0)
	writes(a, l, 0, 3)
	writes(a, l, 5, 3)
	comes(t, a, l, 2, r, mem)
	still.hold(t, b)
}

func TestP11_2InTheScriptsOrder(t *testing.T) {
	// Ats that do not rise: one that is due waits for what is ahead of it.
	script := []api.Event{{At: 5}, {At: 2, Kind: 1, Byte: 1}, {At: 9, Kind: 2}, {At: 0}, {At: 9, Kind: 1, Byte: 2}, {At: 1 << 30}, {At: 3, Kind: 1, Byte: 3}}
	d, l := made(t, script, nil), newLedger(script, nil)
	for _, c := range []struct{ step, events int }{
		{0, 0}, {4, 0}, {5, 2}, {5, 0}, {3, 0}, {8, 0}, {9, 3}, {9, 0}, {1<<30 - 1, 0}, {1 << 30, 2}, {1 << 30, 0}, {math.MaxInt, 0},
	} {
		if events, _ := comes(t, d, l, c.step, nil, nil); len(events) != c.events {
			t.Errorf("Come(%d) is %v, want %d events", c.step, events, c.events)
		}
	}
}

func TestP11_2StepsBelowNought(t *testing.T) {
	script := []api.Event{{At: 0}, {At: 0, Kind: 1, Byte: 8}, {At: 1}}
	d, l := made(t, script, nil), newLedger(script, nil)
	for _, step := range []int{-1, -2, -1 << 30, math.MinInt32, math.MinInt} {
		if events, frames := comes(t, d, l, step, nil, nil); len(events) != 0 || len(frames) != 0 {
			t.Errorf("Come(%d) is %v, %v", step, events, frames)
		}
	}
	if events, _ := comes(t, d, l, 0, nil, nil); !slices.Equal(events, script[:2]) {
		t.Errorf("Come(0) is %v", events)
	}
	if events, _ := comes(t, d, l, 0, nil, nil); len(events) != 0 {
		t.Errorf("Come(0) again is %v", events)
	}
}

func TestP11_2FarAhead(t *testing.T) {
	for _, step := range []int{1 << 30, 1<<30 + 1, math.MaxInt32, math.MaxInt - 1, math.MaxInt} {
		script := []api.Event{{At: 1 << 30}, {At: 3, Kind: 1, Byte: 200}, {At: 1 << 30, Kind: 2}}
		d, l := made(t, script, nil), newLedger(script, nil)
		events, frames := comes(t, d, l, step, nil, nil)
		if !slices.Equal(events, []api.Event{{At: step}, {At: step, Kind: 1, Byte: 200}, {At: step, Kind: 2}}) || len(frames) != 0 {
			t.Errorf("Come(%d) is %v, %v", step, events, frames)
		}
	}
}

func TestP11_2Next(t *testing.T) {
	for _, c := range []struct{ at, step, want int }{
		{0, 0, 0}, {0, -1, 0}, {0, math.MinInt, 0}, {0, 7, 0}, {0, math.MaxInt, 0},
		{3, 0, 3}, {3, -1, 3}, {3, -3, 3}, {3, math.MinInt, 3}, {3, 1, 2}, {3, 2, 1}, {3, 3, 0}, {3, 4, 0}, {3, math.MaxInt, 0},
		{1 << 30, math.MinInt, 1 << 30}, {1 << 30, -1, 1 << 30}, {1 << 30, 1, 1<<30 - 1}, {1 << 30, 1 << 30, 0}, {1 << 30, 1<<30 - 1, 1},
	} {
		d := made(t, []api.Event{{At: c.at}, {At: 1}}, nil)
		for range 2 {
			if n, is := d.Next(c.step); n != c.want || !is {
				t.Errorf("at %d: Next(%d) is %d, %t, want %d", c.at, c.step, n, is, c.want)
			}
		}
	}
}

func TestP11_2NextIsOfTheNextOneAlone(t *testing.T) {
	d := made(t, []api.Event{{At: 9}, {At: 2}, {At: 20, Kind: 1}, {At: 4, Kind: 2}}, nil)
	for _, c := range []struct {
		come, next int
		is         bool
	}{{0, 9, true}, {8, 9, true}, {9, 20, true}, {19, 20, true}, {20, 0, false}, {21, 0, false}} {
		d.Come(c.come, nil)
		if n, is := d.Next(0); n != c.next || is != c.is {
			t.Errorf("behind Come(%d): %d, %t, want %d, %t", c.come, n, is, c.next, c.is)
		}
	}
	for _, step := range []int{math.MinInt, -1, 0, 1, math.MaxInt} {
		if n, is := d.Next(step); n != 0 || is {
			t.Errorf("behind the last one: Next(%d) is %d, %t", step, n, is)
		}
	}
}

// typing is a script of so many bytes that are told apart, one a step.
func typing(n int) []api.Event {
	script := make([]api.Event, n)
	for k := range script {
		script[k] = api.Event{At: k, Kind: 1, Byte: byte(3*k + 1)}
	}
	return script
}

func TestP11_2QueueOverItsRoom(t *testing.T) {
	script := typing(64)
	for n := range 65 {
		d, l := made(t, script[:n], nil), newLedger(script[:n], nil)
		if events, _ := comes(t, d, l, 100, nil, nil); len(events) != n {
			t.Fatalf("%d bytes typed, %d came", n, len(events))
		}
		if got, want := d.In(1), uint32(min(n, 32)); got != want {
			t.Errorf("%d bytes typed: %d are there, want %d", n, got, want)
		}
		for k := range min(n, 32) {
			if got := d.Read(0); got != uint32(script[k].Byte) {
				t.Errorf("%d bytes typed: the byte %d is %d", n, k, got)
			}
		}
		if got := d.Read(0); got != greatest {
			t.Errorf("%d bytes typed: %d behind the last one", n, got)
		}
	}
}

func TestP11_2AByteThatIsLostWaits(t *testing.T) {
	script := typing(40)
	d, l := made(t, script, nil), newLedger(script, nil)
	comes(t, d, l, 31, nil, nil)
	d.Taken(api.Typed)
	l.taken(10)
	if events, _ := comes(t, d, l, 32, nil, nil); !slices.Equal(events, script[32:33]) {
		t.Errorf("the lost byte came as %v", events)
	}
	if d.In(6) != 2 || d.In(1) != 32 {
		t.Errorf("behind the lost byte: %d waits, %d are there", d.In(6), d.In(1))
	}
	// Where one was read, one has room again.
	if a, b := d.Read(0), l.readPort(0); a != b {
		t.Errorf("read %d, want %d", a, b)
	}
	comes(t, d, l, 34, nil, nil)
	for d.In(1) != 0 {
		if a, b := d.Read(0), l.readPort(0); a != b {
			t.Errorf("read %d, want %d", a, b)
		}
	}
	comes(t, d, l, 39, nil, nil)
	if d.In(1) != 5 {
		t.Errorf("%d are there", d.In(1))
	}
}

func TestP11_2TypedWaitsThoughRead(t *testing.T) {
	d := made(t, []api.Event{{Kind: 1, Byte: 7}}, nil)
	d.Come(0, nil)
	if d.Read(0) != 7 || d.In(6) != 2 {
		t.Errorf("%d waits behind the reading", d.In(6))
	}
}

// addresses are edges of memories of one to five frames.
func addresses() []uint32 {
	return []uint32{0, 1, 2, 4, 32, 63, 64, 65, 96, 127, 128, 129, 191, 192, 193, 256, 257, 319, 320, 321, 384, 4096, 32768, 1 << 16, 1 << 31, 1<<31 + 64, greatest - 127, greatest - 126, greatest - 64, greatest - 63, greatest - 62, greatest}
}

func TestP11_2EachCommand(t *testing.T) {
	for _, blocks := range []int{0, 1, 2, 32} {
		disk := row(64*blocks, 11)
		for _, frames := range []int{0, 1, 2, 5} {
			for _, kind := range []uint32{1, 2} {
				for _, block := range []uint32{0, 1, 2, 3, 31, 32, 33, 64, 256, 1 << 16, 1 << 31, greatest} {
					for _, addr := range addresses() {
						script := []api.Event{{At: 1, Kind: 2}}
						d, l := made(t, script, disk), newLedger(script, disk)
						var r *ram.RAM
						var mem []byte
						if frames > 0 {
							r, mem = memory(t, frames)
						}
						commands(d, l, kind, block, addr)
						l.hold(t, d)
						comes(t, d, l, 1, r, mem)
					}
				}
			}
		}
	}
}

// TestP11_2CommandRows: the same, typed out for a disk of two blocks and a memory
// of three frames.
func TestP11_2CommandRows(t *testing.T) {
	disk := row(128, 50)
	for _, c := range []struct {
		kind, block, addr, status uint32
		frame                     int
	}{
		{1, 0, 0, 0, 0}, {1, 1, 0, 0, 0}, {1, 0, 64, 0, 1}, {1, 1, 128, 0, 2},
		{2, 0, 0, 0, -1}, {2, 1, 64, 0, -1}, {2, 0, 128, 0, -1},
		{1, 2, 0, 2, -1}, {2, 2, 0, 2, -1}, {1, greatest, 0, 2, -1}, {2, 1 << 31, 0, 2, -1},
		{1, 0, 1, 2, -1}, {2, 0, 63, 2, -1}, {1, 1, 127, 2, -1}, {2, 1, 96, 2, -1},
		{1, 0, 192, 2, -1}, {2, 0, 192, 2, -1}, {1, 0, greatest - 63, 2, -1}, {2, 0, greatest - 63, 2, -1}, {1, 0, greatest, 2, -1}, {2, 2, greatest, 2, -1},
	} {
		d := made(t, []api.Event{{Kind: 2}}, disk)
		r, mem := memory(t, 3)
		d.Write(2, c.block)
		d.Write(3, c.addr)
		d.Write(4, c.kind)
		events, frames := d.Come(0, r)
		want, wantDisk := bytes.Clone(mem), bytes.Clone(disk)
		var wantFrames []int
		if c.frame >= 0 {
			wantFrames = []int{c.frame}
			copy(want[64*c.frame:], disk[64*c.block:64*c.block+64])
		} else if c.status == 0 {
			copy(wantDisk[64*c.block:64*c.block+64], mem[c.addr:])
		}
		if len(events) != 1 || !slices.Equal(frames, wantFrames) || d.In(4) != c.status || d.In(6) != 4 {
			t.Errorf("%+v: %v, %v, status %d, waiting %d", c, events, frames, d.In(4), d.In(6))
		}
		if !bytes.Equal(flat(r), want) || !bytes.Equal(d.Disk(), wantDisk) {
			t.Errorf("%+v: the memory is % x, the disk % x", c, flat(r), d.Disk())
		}
	}
}

func TestP11_2NoMemory(t *testing.T) {
	for _, r := range []*ram.RAM{nil, {}} {
		for _, kind := range []uint32{1, 2} {
			script, disk := []api.Event{{Kind: 2}, {At: 1, Kind: 2}}, row(64, 4)
			d, l := made(t, script, disk), newLedger(script, disk)
			commands(d, l, kind, 0, 0)
			if events, frames := comes(t, d, l, 0, r, nil); len(events) != 1 || len(frames) != 0 || d.In(4) != 2 {
				t.Errorf("command %d of no memory: %v, %v, status %d", kind, events, frames, d.In(4))
			}
			comes(t, d, l, 1, r, nil)
		}
	}
}

func TestP11_2CommandKeepsItsRegisters(t *testing.T) {
	for _, kind := range []uint32{1, 2} {
		script, disk := []api.Event{{At: 2, Kind: 2}}, row(192, 9)
		d, l := made(t, script, disk), newLedger(script, disk)
		r, mem := memory(t, 3)
		commands(d, l, kind, 1, 64)
		writes(d, l, 2, 2)
		writes(d, l, 3, 129)
		// No other command is taken while one is under way.
		for _, v := range values() {
			writes(d, l, 4, v)
			if d.In(4) != 1 {
				t.Fatalf("status %d behind %d", d.In(4), v)
			}
		}
		comes(t, d, l, 1, r, mem)
		comes(t, d, l, 2, r, mem)
		if d.In(2) != 2 || d.In(3) != 129 || d.In(4) != 0 {
			t.Errorf("registers %d, %d, %d", d.In(2), d.In(3), d.In(4))
		}
	}
}

func TestP11_2DoneWhileIdle(t *testing.T) {
	script, disk := []api.Event{{At: 1, Kind: 2}, {At: 2, Kind: 2}, {At: 3, Kind: 2}, {At: 4, Kind: 2}}, row(64, 1)
	d, l := made(t, script, disk), newLedger(script, disk)
	r, mem := memory(t, 1)
	for _, c := range []struct {
		step, status, waiting uint32
		give                  func()
	}{
		{1, 0, 0, func() {}},
		{2, 2, 4, func() { commands(d, l, 1, 5, 0) }},
		{3, 2, 0, func() { writes(d, l, 6, 4) }},
		{4, 0, 4, func() { commands(d, l, 1, 0, 0) }},
	} {
		c.give()
		comes(t, d, l, int(c.step), r, mem)
		if d.In(4) != c.status || d.In(6) != c.waiting {
			t.Errorf("at %d: status %d, waiting %d", c.step, d.In(4), d.In(6))
		}
	}
}

func TestP11_2SeveralOfTheDiskAtOnce(t *testing.T) {
	script := []api.Event{{At: 1, Kind: 2}, {At: 1}, {At: 1, Kind: 2}, {At: 2, Kind: 1, Byte: 6}, {At: 2, Kind: 2}}
	disk := row(128, 2)
	for frame := range 3 {
		d, l := made(t, script, disk), newLedger(script, disk)
		r, mem := memory(t, 3)
		commands(d, l, 1, 1, uint32(64*frame))
		events, frames := comes(t, d, l, 2, r, mem)
		if len(events) != 5 || !slices.Equal(frames, []int{frame}) || d.In(4) != 0 || d.In(6) != 7 {
			t.Errorf("%v, %v, status %d, waiting %d", events, frames, d.In(4), d.In(6))
		}
	}
}

func TestP11_2AWindowsOwnFrames(t *testing.T) {
	disk := row(64, 30)
	d := made(t, []api.Event{{Kind: 2}}, disk)
	r, mem := memory(t, 6)
	w, _ := r.Window([]int{5, 2})
	d.Write(3, 64)
	d.Write(4, 1)
	if _, frames := d.Come(0, w); !slices.Equal(frames, []int{1}) {
		t.Errorf("frames %v", frames)
	}
	copy(mem[128:], disk)
	if !bytes.Equal(flat(r), mem) {
		t.Errorf("the memory is % x", flat(r))
	}
}

func TestP11_2AnswersAreTheCallersOwn(t *testing.T) {
	script, disk := []api.Event{{Kind: 1, Byte: 1}, {Kind: 2}, {At: 2, Kind: 1, Byte: 2}, {At: 3, Kind: 2}}, row(64, 3)
	d, l := made(t, script, disk), newLedger(script, disk)
	r, mem := memory(t, 2)
	commands(d, l, 1, 0, 64)
	events, frames := comes(t, d, l, 0, r, mem)
	kept := slices.Clone(events)
	events, frames = append(events, api.Event{At: 77, Kind: 1}), append(frames, 5)
	clear(events)
	clear(frames)
	l.hold(t, d)
	again, _ := comes(t, d, l, 2, r, mem)
	if len(again) != 1 || len(kept) != 2 || kept[0] != (api.Event{Kind: 1, Byte: 1}) {
		t.Errorf("%v, %v", kept, again)
	}
}

func TestP11_3WantsOfEachSet(t *testing.T) {
	first := [8]int{0, api.Tick, api.Typed, api.Tick, api.Moved, api.Tick, api.Typed, api.Tick}
	for bits := range uint32(8) {
		for mask := range uint32(8) {
			d := loaded(t, api.Saved{Bits: bits, Mask: mask})
			left := 0
			for k, value := range []int{1, 2, 4} {
				if truths(bits)[k] && !truths(mask)[k] {
					left += value
				}
			}
			for ps := range uint32(256) {
				want := 0
				if ps/2%2 == 1 {
					want = first[left]
				}
				for _, more := range []uint32{0, 0xffffff00} {
					if n := d.Wants(ps + more); n != want {
						t.Errorf("%d waiting, %d masked: Wants(%#x) is %d, want %d", bits, mask, ps+more, n, want)
					}
				}
			}
			if d.In(6) != bits || d.In(5) != mask {
				t.Errorf("%d waiting, %d masked: asking turned them to %d, %d", bits, mask, d.In(6), d.In(5))
			}
		}
	}
}

func TestP11_3TakenOfEachSet(t *testing.T) {
	causes := []int{api.Tick, api.Typed, api.Moved}
	for k := -20; k <= 30; k++ {
		causes = append(causes, k)
	}
	causes = append(causes, math.MinInt, math.MaxInt, math.MinInt32, math.MaxInt32, 256+9, 1<<16+10, math.MinInt+11)
	for bits := range uint32(8) {
		for mask := range uint32(8) {
			for _, cause := range causes {
				d := loaded(t, api.Saved{Bits: bits, Mask: mask})
				l := newLedger(nil, nil)
				l.waits, l.masked = truths(bits), truths(mask)
				for range 2 {
					d.Taken(cause)
					l.taken(cause)
					l.hold(t, d)
				}
			}
		}
	}
}

func TestP11_3ByEvents(t *testing.T) {
	script, disk := []api.Event{{At: 1, Kind: 2}, {At: 2, Kind: 1}, {At: 3}, {At: 4}}, row(64, 1)
	d, l := made(t, script, disk), newLedger(script, disk)
	r, mem := memory(t, 1)
	commands(d, l, 2, 0, 0)
	for _, c := range []struct{ step, want int }{{0, 0}, {1, api.Moved}, {2, api.Typed}, {3, api.Tick}} {
		comes(t, d, l, c.step, r, mem)
		if n := d.Wants(api.PInt); n != c.want {
			t.Errorf("at %d: wants %d, want %d", c.step, n, c.want)
		}
		if n := d.Wants(^api.PInt); n != 0 {
			t.Errorf("at %d without PInt: wants %d", c.step, n)
		}
	}
	for _, want := range []int{api.Tick, api.Typed, api.Moved, 0, 0} {
		n := d.Wants(api.PInt)
		if n != want {
			t.Errorf("wants %d, want %d", n, want)
		}
		d.Taken(n)
	}
	// What was taken waits anew when it comes again.
	d.Come(4, r)
	if n := d.Wants(api.PInt); n != api.Tick {
		t.Errorf("another tick: wants %d", n)
	}
}

// amid is devices of which no port answers 0, beside their ledger.
func amid(t *testing.T, status uint32) (*dev.Dev, *ledger) {
	t.Helper()
	script := []api.Event{{At: 30, Kind: 2}, {At: 31, Kind: 1, Byte: 4}}
	disk := row(192, 8)
	x := api.Saved{Out: []byte{1, 2}, Disk: disk, Queue: []byte{50, 0, 255}, Script: script, Bits: 7, Mask: 5, Block: 2, Addr: 64, Status: status}
	l := newLedger(script, disk)
	l.out, l.found = []byte{1, 2}, []byte{50, 0, 255}
	l.waits, l.masked = truths(7), truths(5)
	l.block, l.addr, l.status = 2, 64, status
	if status == 1 {
		x.Kind, x.From, x.To = 2, 1, 128
		l.given = [3]uint32{2, 1, 128}
	}
	d := loaded(t, x)
	l.hold(t, d)
	return d, l
}

func TestP11_4InTakesNothingOut(t *testing.T) {
	d, l := amid(t, 1)
	for _, port := range ports() {
		for range 3 {
			if n, want := d.In(port), l.in(port); n != want {
				t.Errorf("In(%d) is %d, want %d", port, n, want)
			}
			l.hold(t, d)
		}
	}
}

func TestP11_4ReadAnswersAsIn(t *testing.T) {
	for status := range uint32(3) {
		for _, port := range ports() {
			d, l := amid(t, status)
			for range 5 {
				in := d.In(port)
				if n, want := d.Read(port), l.readPort(port); n != want || n != in {
					t.Errorf("Read(%d) is %d, In %d, want %d", port, n, in, want)
				}
				l.hold(t, d)
			}
		}
	}
}

func TestP11_4ReadTakesOutInOrder(t *testing.T) {
	d, _ := amid(t, 0)
	for k, want := range []uint32{50, 0, 255, greatest, greatest} {
		if n := d.In(1); n != uint32(max(3-k, 0)) {
			t.Errorf("%d read: %d are there", k, n)
		}
		if n := d.Read(0); n != want {
			t.Errorf("byte %d is %d, want %d", k, n, want)
		}
	}
}

func TestP11_4EachPortIsWritten(t *testing.T) {
	x := rand.New(rand.NewSource(114))
	all := values()
	for range 50 {
		all = append(all, x.Uint32())
	}
	for status := range uint32(3) {
		for _, port := range ports() {
			for _, v := range all {
				d, l := amid(t, status)
				writes(d, l, port, v)
				if fault := l.faults(d); fault != "" {
					t.Fatalf("behind Write(%d, %#x) at status %d: %s", port, v, status, fault)
				}
			}
		}
	}
}

// TestP11_4WhichBitsCount: typed out, port by port.
func TestP11_4WhichBitsCount(t *testing.T) {
	for _, c := range []struct {
		port int
		v    uint32
		look int
		want uint32
	}{
		{2, greatest, 2, greatest}, {2, 0, 2, 0}, {3, greatest, 3, greatest}, {3, 1<<31 + 3, 3, 1<<31 + 3}, {3, 0, 3, 0},
		{4, 0, 4, 0}, {4, 1, 4, 1}, {4, 2, 4, 1}, {4, 3, 4, 0}, {4, 4, 4, 0}, {4, 257, 4, 0}, {4, 1<<31 + 1, 4, 0}, {4, 1<<31 + 2, 4, 0}, {4, greatest, 4, 0},
		{5, 0, 5, 0}, {5, 2, 5, 2}, {5, 7, 5, 7}, {5, 8, 5, 0}, {5, 0xfffffffa, 5, 2}, {5, greatest, 5, 7},
		{6, 0, 6, 7}, {6, 1, 6, 6}, {6, 2, 6, 5}, {6, 4, 6, 3}, {6, 8, 6, 7}, {6, 0xfffffff9, 6, 6}, {6, greatest, 6, 0},
		{1, 9, 1, 3}, {7, 9, 7, 3}, {8, 9, 8, 0}, {-1, 9, -1, 0},
	} {
		d, _ := amid(t, 0)
		d.Write(c.port, c.v)
		if n := d.In(c.look); n != c.want {
			t.Errorf("behind Write(%d, %#x) In(%d) is %#x, want %#x", c.port, c.v, c.look, n, c.want)
		}
	}
}

func TestP11_4Output(t *testing.T) {
	d := made(t, nil, nil)
	var want []byte
	for _, v := range append(values(), 0, 0, 0x1234ff) {
		d.Write(0, v)
		want = append(want, byte(v%256))
		if got := d.Output(); !bytes.Equal(got, want) {
			t.Fatalf("Output is % x, want % x", got, want)
		}
	}
	for k := range uint32(1000) {
		d.Write(0, k)
		want = append(want, byte(k))
	}
	if got := d.Output(); !bytes.Equal(got, want) {
		t.Errorf("%d bytes went out, want %d", len(got), len(want))
	}
}

func TestP11_4AnswersAreTheCallersOwn(t *testing.T) {
	d, l := amid(t, 1)
	out, other, disk, otherDisk := d.Output(), d.Output(), d.Disk(), d.Disk()
	for _, b := range [][]byte{out, disk} {
		_ = append(b, 9, 9, 9)
		clear(b)
	}
	if !bytes.Equal(other, l.out) || !bytes.Equal(otherDisk, l.diskBytes()) {
		t.Error("two answers share memory")
	}
	l.hold(t, d)
	writes(d, l, 0, 77)
	if !bytes.Equal(other, []byte{1, 2}) {
		t.Error("an answer grew")
	}
	r, mem := memory(t, 3)
	comes(t, d, l, 30, r, mem)
	if !bytes.Equal(otherDisk, row(192, 8)) {
		t.Error("an answer turned with the disk")
	}
}

// TestP11_4CopyGoesItsOwnWay: what is done with one of both is not done with the
// other, whichever it is.
func TestP11_4CopyGoesItsOwnWay(t *testing.T) {
	for status := range uint32(3) {
		for _, turned := range []bool{false, true} {
			d, l := amid(t, status)
			other := d.Copy()
			l.hold(t, other)
			still, stillLedger := other, l.clone()
			if turned {
				d, still = other, d
			}
			r, mem := memory(t, 3)
			writes(d, l, 0, 66)
			comes(t, d, l, 31, r, mem)
			d.Read(0)
			l.readPort(0)
			commands(d, l, 2, 0, 0)
			writes(d, l, 5, 2)
			writes(d, l, 6, 3)
			d.Taken(api.Moved)
			l.taken(11)
			l.hold(t, d)
			stillLedger.hold(t, still)
			other2, mem2 := memory(t, 3)
			comes(t, still, stillLedger, 30, other2, mem2)
			writes(still, stillLedger, 0, 67)
			comes(t, still, stillLedger, 31, other2, mem2)
			l.hold(t, d)
		}
	}
}

// TestP11_4CopyOfAFullQueue: a byte that has room in one of both is lost in the
// other, which has the next one in its place.
func TestP11_4CopyOfAFullQueue(t *testing.T) {
	for reads := range 20 {
		script := typing(60)
		d, l := made(t, script, nil), newLedger(script, nil)
		comes(t, d, l, 30, nil, nil)
		for range reads {
			d.Read(0)
			l.readPort(0)
		}
		comes(t, d, l, 31+reads, nil, nil)
		other, otherLedger := d.Copy(), l.clone()
		other.Read(0)
		otherLedger.readPort(0)
		comes(t, other, otherLedger, 32+reads, nil, nil)
		comes(t, d, l, 32+reads, nil, nil)
		d.Read(0)
		l.readPort(0)
		comes(t, d, l, 33+reads, nil, nil)
		if d.In(1) != 32 || other.In(1) != 32 {
			t.Fatalf("%d and %d bytes are there", d.In(1), other.In(1))
		}
		l.hold(t, d)
		otherLedger.hold(t, other)
	}
}

func TestP11_4CopyDrawn(t *testing.T) {
	x := rand.New(rand.NewSource(1141))
	for range 300 {
		script, disk := drawEvents(x), row(64*x.Intn(4), x.Intn(99))
		d, l := made(t, script, disk), newLedger(script, disk)
		r, mem := memory(t, 3)
		step := 0
		for range 1 + x.Intn(60) {
			step += x.Intn(3)
			does(t, x, d, l, step, r, mem)
		}
		other, otherLedger, otherRAM, otherMem := d.Copy(), l.clone(), r.Copy(), bytes.Clone(mem)
		for range 40 {
			step += x.Intn(3)
			does(t, x, d, l, step, r, mem)
			otherLedger.hold(t, other)
			does(t, x, other, otherLedger, step, otherRAM, otherMem)
			l.hold(t, d)
		}
	}
}

func TestP11_5SaveAtFirst(t *testing.T) {
	if fault := differs(made(t, nil, nil).Save(), api.Saved{}); fault != "" {
		t.Error(fault)
	}
	script, disk := []api.Event{{At: 9}, {At: 2, Kind: 1, Byte: 4}}, row(128, 3)
	if fault := differs(made(t, script, disk).Save(), api.Saved{Script: script, Disk: disk}); fault != "" {
		t.Error(fault)
	}
}

func TestP11_5SaveAmidAScript(t *testing.T) {
	script, disk := []api.Event{{At: 1}, {At: 2, Kind: 1, Byte: 4}, {At: 7, Kind: 2}, {At: 5, Kind: 1}}, row(64, 3)
	d := made(t, script, disk)
	d.Come(3, nil)
	d.Write(0, 0x1fe)
	d.Write(5, 4)
	d.Write(2, 40)
	d.Write(3, 41)
	want := api.Saved{Out: []byte{0xfe}, Disk: disk, Queue: []byte{4}, Script: script[2:], Bits: 3, Mask: 4, Block: 40, Addr: 41}
	if fault := differs(d.Save(), want); fault != "" {
		t.Error(fault)
	}
	d.Write(4, 2)
	d.Write(2, 0)
	d.Write(3, 128)
	want.Block, want.Addr, want.Status, want.Kind, want.From, want.To = 0, 128, 1, 2, 40, 41
	if fault := differs(d.Save(), want); fault != "" {
		t.Error("busy: " + fault)
	}
	d.Come(7, nil)
	want.Script, want.Queue, want.Bits = nil, []byte{4, 0}, 7
	want.Status, want.Kind, want.From, want.To = 2, 0, 0, 0
	if fault := differs(d.Save(), want); fault != "" {
		t.Error("done: " + fault)
	}
}

func TestP11_5SaveIsTheCallersOwn(t *testing.T) {
	d, l := amid(t, 1)
	x, other := d.Save(), d.Save()
	for _, b := range [][]byte{x.Out, x.Disk, x.Queue} {
		_ = append(b, 5, 5, 5)
		clear(b)
	}
	_ = append(x.Script, api.Event{At: 50})
	clear(x.Script)
	l.hold(t, d)
	if fault := differs(other, l.save()); fault != "" {
		t.Error(fault)
	}
	writes(d, l, 0, 3)
	comes(t, d, l, 31, nil, nil)
	d.Read(0)
	if len(other.Out) != 2 || len(other.Script) != 2 || !bytes.Equal(other.Queue, []byte{50, 0, 255}) {
		t.Errorf("what was answered turned: %+v", other)
	}
}

// full is what can be loaded, with all of it there.
func full() api.Saved {
	return api.Saved{
		Out: row(70, 1), Disk: row(2048, 2), Queue: row(32, 3), Script: typing(64),
		Bits: 7, Mask: 7, Block: greatest, Addr: greatest, Status: 1, Kind: 2, From: greatest, To: greatest,
	}
}

// loadable are some that Load takes.
func loadable() []api.Saved {
	all := []api.Saved{{}, full(), {Out: row(100000, 5)}, {Queue: row(32, 1)}, {Block: greatest}, {Addr: greatest}, {Status: 2}, {Status: 2, Block: 7, Addr: 1}}
	for bits := range uint32(8) {
		all = append(all, api.Saved{Bits: bits}, api.Saved{Mask: bits}, api.Saved{Bits: bits, Mask: 7 - bits, Status: 2})
	}
	for _, kind := range []uint32{1, 2} {
		for _, n := range []uint32{0, 1, 64, greatest} {
			all = append(all, api.Saved{Status: 1, Kind: kind, From: n}, api.Saved{Status: 1, Kind: kind, To: n, Disk: row(64, 6)})
		}
	}
	return all
}

func TestP11_5LoadedIsSaved(t *testing.T) {
	for _, x := range loadable() {
		d := loaded(t, x)
		if fault := differs(d.Save(), x); fault != "" {
			t.Errorf("%+v: %s", x, fault)
		}
		if fault := differs(d.Copy().Save(), x); fault != "" {
			t.Errorf("the copy of %+v: %s", x, fault)
		}
	}
}

func TestP11_5WhatIsOfNoDevices(t *testing.T) {
	for _, x := range loadable() {
		more := x
		more.Frames, more.Mem, more.Steps = -5, make([]byte, 3), -1
		more.S = api.State{PC: 9, PS: greatest, Halted: true}
		more.Notes = []api.Note{{At: -1, Cause: 99}}
		if fault := differs(loaded(t, more).Save(), x); fault != "" {
			t.Errorf("%+v: %s", x, fault)
		}
	}
}

// flaw is one that Load refuses.
type flaw struct {
	name string
	turn func(x *api.Saved)
	want api.Errno
}

// flaws are the single faults of P11.5, in the order of the errors that they
// come to; each turns a full one, or one with nothing, into such as is refused.
func flaws() []flaw {
	all := []flaw{
		{"65 events", func(x *api.Saved) { x.Script = make([]api.Event, 65) }, api.ErrLong},
		{"a long disk", func(x *api.Saved) { x.Disk = make([]byte, 2048+64) }, api.ErrLong},
		{"a disk of odd bytes", func(x *api.Saved) { x.Disk = make([]byte, 65) }, api.ErrArg},
	}
	for _, e := range wrongEvents() {
		all = append(all, flaw{"a wrong event", func(x *api.Saved) { x.Script = []api.Event{{}, e} }, api.ErrArg})
	}
	all = append(all,
		flaw{"33 bytes", func(x *api.Saved) { x.Queue = make([]byte, 33) }, api.ErrLong},
		flaw{"many bytes", func(x *api.Saved) { x.Queue = make([]byte, 5000) }, api.ErrLong})
	for _, n := range []uint32{8, 9, 15, 16, 1 << 31, greatest - 7, greatest} {
		all = append(all,
			flaw{"Bits", func(x *api.Saved) { x.Bits = n }, api.ErrArg},
			flaw{"Mask", func(x *api.Saved) { x.Mask = n }, api.ErrArg})
	}
	for _, n := range []uint32{3, 4, 257, 1 << 31, 1<<31 + 1, greatest} {
		all = append(all,
			flaw{"Status", func(x *api.Saved) { x.Status = n }, api.ErrArg},
			flaw{"Status without a command", func(x *api.Saved) { x.Status, x.Kind, x.From, x.To = n, 0, 0, 0 }, api.ErrArg})
	}
	for _, n := range []uint32{0, 3, 4, 257, 1<<31 + 1, greatest} {
		all = append(all, flaw{"Kind while busy", func(x *api.Saved) { x.Status, x.Kind = 1, n }, api.ErrArg})
	}
	for _, status := range []uint32{0, 2} {
		for _, n := range []uint32{1, 2, 3, 1 << 31, greatest} {
			all = append(all,
				flaw{"Kind", func(x *api.Saved) { x.Status, x.Kind, x.From, x.To = status, n, 0, 0 }, api.ErrArg},
				flaw{"From", func(x *api.Saved) { x.Status, x.Kind, x.From, x.To = status, 0, n, 0 }, api.ErrArg},
				flaw{"To", func(x *api.Saved) { x.Status, x.Kind, x.From, x.To = status, 0, 0, n }, api.ErrArg})
		}
	}
	return all
}

func TestP11_5EachFault(t *testing.T) {
	for _, f := range flaws() {
		for _, x := range []api.Saved{full(), {}} {
			f.turn(&x)
			if d, e := dev.Load(x); d != nil || e != f.want {
				t.Errorf("%s of %+v: %v, %d, want %d", f.name, x, d != nil, int(e), int(f.want))
			}
		}
	}
}

func TestP11_5SeveralFaults(t *testing.T) {
	// A command that does not fit its status lies in one place, so that of two
	// such faults the later one alone may be there: both are ErrArg.
	all := flaws()
	for k, first := range all {
		for _, second := range all[k+1:] {
			x := full()
			first.turn(&x)
			second.turn(&x)
			if d, e := dev.Load(x); d != nil || e != firstError(x) {
				t.Errorf("%s, %s: %v, %d, want %d", first.name, second.name, d != nil, int(e), int(firstError(x)))
			}
		}
	}
	odd := api.Saved{Script: []api.Event{{Kind: 3}}, Queue: make([]byte, 33), Bits: 8}
	if d, e := dev.Load(odd); d != nil || e != api.ErrArg {
		t.Errorf("New's ErrArg ahead of the queue's: %v, %d", d != nil, int(e))
	}
	odd.Script = nil
	if d, e := dev.Load(odd); d != nil || e != api.ErrLong {
		t.Errorf("the queue's ErrLong ahead of the bits': %v, %d", d != nil, int(e))
	}
}

// firstError is Load's error of one that has some fault.
func firstError(x api.Saved) api.Errno {
	if _, e := dev.New(x.Script, x.Disk); e != api.OK {
		return e
	}
	if len(x.Queue) >= 33 {
		return api.ErrLong
	}
	return api.ErrArg
}

func TestP11_5WhatIsHandedInToLoad(t *testing.T) {
	// The lists have room behind them, in which nothing may be laid.
	room := full()
	room.Out, room.Queue = row(90, 1), row(40, 3)
	kept := room
	kept.Out, kept.Disk, kept.Queue, kept.Script = bytes.Clone(room.Out), bytes.Clone(room.Disk), bytes.Clone(room.Queue), slices.Clone(room.Script)
	x := room
	x.Out, x.Disk, x.Queue, x.Script = room.Out[:70], room.Disk[:1024], room.Queue[:8], room.Script[:20]
	x.From, x.To = 3, 64
	d := loaded(t, x)
	l := newLedger(slices.Clone(x.Script), bytes.Clone(x.Disk))
	l.out, l.found, l.waits, l.masked = bytes.Clone(x.Out), bytes.Clone(x.Queue), truths(7), truths(7)
	l.block, l.addr, l.status, l.given = greatest, greatest, 1, [3]uint32{2, 3, 64}
	l.hold(t, d)
	writes(d, l, 0, 250)
	r, mem := memory(t, 2)
	comes(t, d, l, 15, r, mem)
	if fault := differs(room, kept); fault != "" {
		t.Fatal(fault)
	}
	clear(room.Out)
	clear(room.Disk)
	clear(room.Queue)
	clear(room.Script)
	l.hold(t, d)
	comes(t, d, l, 100, r, mem)
}

func TestP11_5LoadedGoesOn(t *testing.T) {
	x := rand.New(rand.NewSource(115))
	for range 300 {
		script, disk := drawEvents(x), row(64*x.Intn(4), x.Intn(99))
		d, l := made(t, script, disk), newLedger(script, disk)
		r, mem := memory(t, 3)
		step := 0
		for range 60 {
			step += x.Intn(3)
			does(t, x, d, l, step, r, mem)
			if x.Intn(4) == 0 {
				d = loaded(t, d.Save())
				l.hold(t, d)
			}
		}
	}
}

func TestP11_5BusyGoesOn(t *testing.T) {
	for _, kind := range []uint32{1, 2} {
		disk := row(128, 20)
		x := api.Saved{Disk: disk, Script: []api.Event{{At: 3, Kind: 2}}, Status: 1, Kind: kind, From: 1, To: 64, Block: 9, Addr: 9}
		d := loaded(t, x)
		r, mem := memory(t, 2)
		_, frames := d.Come(3, r)
		wantMem, wantDisk := bytes.Clone(mem), bytes.Clone(disk)
		if kind == 1 {
			copy(wantMem[64:], disk[64:])
		} else {
			copy(wantDisk[64:], mem[64:])
		}
		if !bytes.Equal(flat(r), wantMem) || !bytes.Equal(d.Disk(), wantDisk) || len(frames) != int(2-kind) || d.In(4) != 0 {
			t.Errorf("command %d: the memory is % x, the disk % x, frames %v", kind, flat(r), d.Disk(), frames)
		}
	}
}

// unmade are the Devs that no call made.
func unmade() map[string]*dev.Dev {
	return map[string]*dev.Dev{"a nil Dev": nil, "a Dev that New did not make": {}}
}

// empty holds every answer of a Dev against its zero value.
func empty(t *testing.T, name string, d *dev.Dev) {
	t.Helper()
	for _, port := range ports() {
		if a, b := d.In(port), d.Read(port); a != 0 || b != 0 {
			t.Errorf("%s: In(%d), Read are %d, %d", name, port, a, b)
		}
	}
	for _, step := range []int{math.MinInt, -1, 0, 1, math.MaxInt} {
		if n, is := d.Next(step); n != 0 || is {
			t.Errorf("%s: Next(%d) is %d, %t", name, step, n, is)
		}
		r, mem := memory(t, 2)
		if l, f := d.Come(step, r); l != nil || f != nil || !bytes.Equal(flat(r), mem) {
			t.Errorf("%s: Come(%d) is %v, %v", name, step, l, f)
		}
	}
	for _, ps := range []uint32{0, 2, greatest} {
		if n := d.Wants(ps); n != 0 {
			t.Errorf("%s: wants %d", name, n)
		}
	}
	if out, disk, other := d.Output(), d.Disk(), d.Copy(); out != nil || disk != nil || other != nil {
		t.Errorf("%s: Output %v, Disk %v, Copy %v", name, out, disk, other)
	}
	if fault := differs(d.Save(), api.Saved{}); fault != "" {
		t.Errorf("%s: %s", name, fault)
	}
}

func TestP11_6Unmade(t *testing.T) {
	for name, d := range unmade() {
		empty(t, name, d)
		for _, port := range ports() {
			for _, v := range values() {
				d.Write(port, v)
			}
		}
		for cause := -1; cause < 14; cause++ {
			d.Taken(cause)
		}
		d.Come(5, nil)
		empty(t, name+" that was written to", d)
	}
}

// TestP11_6Made: what Load and Copy answer are devices like New's.
func TestP11_6Made(t *testing.T) {
	for name, d := range map[string]*dev.Dev{"New": made(t, nil, nil), "Load": loaded(t, api.Saved{}), "Copy": made(t, nil, nil).Copy()} {
		if n := d.In(0); n != greatest {
			t.Errorf("%s: In(0) is %d", name, n)
		}
		d.Write(2, 5)
		if n := d.In(2); n != 5 {
			t.Errorf("%s: In(2) is %d", name, n)
		}
		if d.Copy() == nil {
			t.Errorf("%s: no copy", name)
		}
	}
}

// TestP11_6LeftAlone: a refused call has changed nothing, and what was not made
// makes none.
func TestP11_6LeftAlone(t *testing.T) {
	r, mem := memory(t, 2)
	for _, d := range unmade() {
		d.Write(2, 0)
		d.Write(4, 1)
		d.Come(math.MaxInt, r)
	}
	if !bytes.Equal(flat(r), mem) {
		t.Errorf("the memory is % x", flat(r))
	}
}

func TestP11_7EachEventOnce(t *testing.T) {
	x := rand.New(rand.NewSource(117))
	for range 500 {
		script := drawEvents(x)
		d := made(t, script, nil)
		var came []api.Event
		step := 0
		for range 40 {
			step += x.Intn(10)
			events, _ := d.Come(step-x.Intn(5), nil)
			came = append(came, events...)
		}
		events, _ := d.Come(1<<30, nil)
		came = append(came, events...)
		if len(came) != len(script) {
			t.Fatalf("%d of %d events came", len(came), len(script))
		}
		for k, e := range came {
			if e.Kind != script[k].Kind || e.Byte != script[k].Byte || e.At < script[k].At {
				t.Fatalf("event %d of %v came as %+v", k, script, e)
			}
		}
	}
}

func TestP11_7WhatIsReadWasTyped(t *testing.T) {
	x := rand.New(rand.NewSource(1171))
	for range 200 {
		script := typing(64)
		d := made(t, script, nil)
		var read []byte
		for step := range 64 {
			d.Come(step, nil)
			for d.In(1) > 30 || d.In(1) > 0 && x.Intn(2) == 0 {
				read = append(read, byte(d.Read(0)))
			}
		}
		for d.In(1) > 0 {
			read = append(read, byte(d.Read(0)))
		}
		for k, e := range script {
			if len(read) != 64 || read[k] != e.Byte {
				t.Fatalf("read % x", read)
			}
		}
	}
}

func TestP11_7WhatWasWrittenToABlock(t *testing.T) {
	script := make([]api.Event, 64)
	for k := range script {
		script[k] = api.Event{At: k, Kind: 2}
	}
	disk := row(2048, 1)
	d := made(t, script, disk)
	r, _ := memory(t, 1)
	step := 0
	move := func(kind, block uint32) {
		d.Write(2, block)
		d.Write(4, kind)
		d.Come(step, r)
		step++
	}
	for block := range uint32(32) {
		r.Fill(0, row(64, 200+int(block)))
		move(2, block)
	}
	for block := 31; block >= 0; block-- {
		r.Fill(0, make([]byte, 64))
		move(1, uint32(block))
		if !bytes.Equal(r.Frame(0), row(64, 200+block)) {
			t.Errorf("block %d is % x", block, r.Frame(0))
		}
	}
}

// TestP11_7OnlyComeWritesIntoMemory: a memory that devices have had in their hands
// is turned by no call but Come.
func TestP11_7OnlyComeWritesIntoMemory(t *testing.T) {
	disk := row(128, 60)
	d := made(t, []api.Event{{Kind: 2}, {At: 1, Kind: 2}, {At: 9, Kind: 2}}, disk)
	r, _ := memory(t, 4)
	d.Write(3, 64)
	d.Write(4, 1)
	d.Come(0, r)
	mem := flat(r)
	d.Write(2, 1)
	d.Write(3, 128)
	d.Write(4, 1)
	for _, port := range ports() {
		d.In(port)
		d.Read(port)
		for _, v := range values() {
			d.Write(port, v)
		}
	}
	for cause := range 15 {
		d.Taken(cause)
	}
	d.Next(5)
	d.Wants(2)
	clear(d.Output())
	clear(d.Disk())
	d.Copy().Write(4, 1)
	loaded(t, d.Save()).Write(4, 2)
	if !bytes.Equal(flat(r), mem) {
		t.Errorf("the memory is % x, want % x", flat(r), mem)
	}
	// What was read into memory is no part of the disk, and goes on by itself.
	r.Fill(64, make([]byte, 64))
	if !bytes.Equal(d.Disk(), disk) {
		t.Errorf("the disk is % x", d.Disk())
	}
	d.Come(1, r)
	copy(mem[64:], make([]byte, 64))
	copy(mem[128:], disk[64:])
	if !bytes.Equal(flat(r), mem) {
		t.Errorf("behind Come the memory is % x, want % x", flat(r), mem)
	}
}

func TestP11_7WholeFrames(t *testing.T) {
	for frames := 1; frames <= 4; frames++ {
		for at := range frames {
			disk := row(64, 90)
			d := made(t, []api.Event{{Kind: 2}}, disk)
			r, mem := memory(t, frames)
			d.Write(3, uint32(64*at))
			d.Write(4, 1)
			d.Come(0, r)
			for n := range frames {
				want := mem[64*n : 64*n+64]
				if n == at {
					want = disk
				}
				if !bytes.Equal(r.Frame(n), want) {
					t.Errorf("of %d frames, moved to %d: frame %d is % x", frames, at, n, r.Frame(n))
				}
			}
		}
	}
}

// TestP11_7TheDisksOwn: a block that was written is apart from the memory that it
// came from.
func TestP11_7TheDisksOwn(t *testing.T) {
	d := made(t, []api.Event{{Kind: 2}}, make([]byte, 64))
	r, mem := memory(t, 1)
	d.Write(4, 2)
	d.Come(0, r)
	r.Fill(0, make([]byte, 64))
	if !bytes.Equal(d.Disk(), mem) {
		t.Errorf("the disk is % x", d.Disk())
	}
}

func TestDrawn(t *testing.T) {
	x := rand.New(rand.NewSource(11))
	for range 1000 {
		script, disk := drawEvents(x), row(64*x.Intn(5), x.Intn(99))
		d, l := made(t, script, disk), newLedger(script, disk)
		var r *ram.RAM
		var mem []byte
		if frames := x.Intn(5); frames > 0 {
			r, mem = memory(t, frames)
		}
		step := 0
		for range 80 {
			step += x.Intn(3)
			does(t, x, d, l, step, r, mem)
			l.hold(t, d)
		}
	}
}
