package machine

import (
	"slices"

	"mummer/api"
	"mummer/dev"
	"mummer/ram"
)

// maxSteps is the last step at which a machine may have been saved.
const maxSteps = 1 << 40

// Save is all of the machine.
func (m *Machine) Save() api.Saved {
	if !m.works() {
		return api.Saved{}
	}
	x := m.devices.Save()
	x.Frames = framesOf(m.mem)
	for n := range x.Frames {
		x.Mem = append(x.Mem, m.mem.Frame(n)...)
	}
	x.S = m.state
	x.Steps = m.steps
	x.Notes = slices.Clone(m.notes)
	return x
}

// Load is a machine as it was saved.
func Load(x api.Saved) (*Machine, api.Errno) {
	if !mayHave(x.Frames) {
		return nil, api.ErrArg
	}
	mem, e := ram.New(x.Frames)
	if e != api.OK {
		return nil, e
	}
	return Resume(mem, x)
}

// Resume is a machine as it was saved, over a memory.
func Resume(r *ram.RAM, x api.Saved) (*Machine, api.Errno) {
	if r.Size() == 0 {
		return nil, api.ErrNil
	}
	if wrong(x) || framesOf(r) != x.Frames {
		return nil, api.ErrArg
	}
	devices, e := dev.Load(x)
	if e != api.OK {
		return nil, e
	}
	r.Fill(0, x.Mem)
	return &Machine{mem: r, devices: devices, state: x.S, steps: x.Steps, notes: slices.Clone(x.Notes)}, api.OK
}

// wrong is true of what no machine is, but for its devices.
func wrong(x api.Saved) bool {
	if !mayHave(x.Frames) || len(x.Mem) != x.Frames*api.PageSize {
		return true
	}
	return !mayBe(x.S) || x.Steps < 0 || int64(x.Steps) > maxSteps
}

func framesOf(r *ram.RAM) int { return int(r.Size() / api.PageSize) }
