package machine

import (
	"mummer/api"
	"mummer/core"
	"mummer/isa"
	"mummer/sense"
	"mummer/walk"
)

// end is what an instruction comes to: a failure or a success. Nothing of the
// machine turns till it is known which.
type end interface{ fault() api.Fault }

// failure is a fault that is to be delivered.
type failure api.Fault

func (f failure) fault() api.Fault { return api.Fault(f) }

// success is the state behind an instruction, and what is to be done beside:
// memory that is written (as wish says, at the address at), and ports.
type success struct {
	next  api.State
	wish  api.Access
	at    uint32
	takes bool // what the port has is taken out of it
	puts  bool // value goes out there
	port  int
	value uint32
}

func (success) fault() api.Fault { return api.Fault{} }

// One does an instruction.
func (m *Machine) One() api.Fault {
	if m.stands() {
		return api.Fault{}
	}
	e := m.attempt()
	m.settle(e)
	return e.fault()
}

func (m *Machine) settle(e end) {
	switch e := e.(type) {
	case failure:
		m.Deliver(api.Fault(e))
	case success:
		m.finish(e)
	}
}

// attempt is the end of the instruction at PC.
func (m *Machine) attempt() end {
	i, f := m.fetch()
	if f.Cause != 0 {
		return failure(f)
	}
	port := int(i.B)
	next, effect := sense.Do(m.state, i, m.devices.In(port))
	switch effect.Cause {
	case 0:
		return success{next: next, takes: i.Op == api.OIn, puts: effect.Out, port: port, value: effect.Value}
	case api.Undecodable: // it was decoded, so it is only none of layer 9
		return m.attemptPlain(i)
	}
	return failure{Cause: effect.Cause}
}

// attemptPlain is the end of an instruction of layer 8.
func (m *Machine) attemptPlain(i api.Ins) end {
	wish, f := core.Want(m.state, i)
	if f.Cause != 0 {
		return failure(f)
	}
	at, f := m.reach(wish)
	if f.Cause != 0 {
		return failure(f)
	}
	next, f := core.Do(m.state, i, m.read(at, wish.Size))
	if f.Cause != 0 {
		return failure(f)
	}
	return success{next: next, wish: wish, at: at}
}

// fetch is the instruction at PC.
func (m *Machine) fetch() (api.Ins, api.Fault) {
	none := api.Fault{Cause: api.Undecodable, Addr: m.state.PC}
	hand := m.handOut()
	op, f := hand()
	if f.Cause != 0 {
		return api.Ins{}, f
	}
	size := isa.Size(op, false)
	if size == 0 {
		return api.Ins{}, none
	}
	bytes := []byte{op}
	for len(bytes) < size {
		b, f := hand()
		if f.Cause != 0 {
			return api.Ins{}, f
		}
		bytes = append(bytes, b)
	}
	i, _, e := isa.Decode(bytes, false)
	if e != api.OK {
		return api.Ins{}, none
	}
	return i, api.Fault{}
}

// handOut fetches the byte at PC, and with each further call the next one: each
// by a way of its own, since an instruction may lie on two pages.
func (m *Machine) handOut() func() (uint8, api.Fault) {
	place := m.state.PC
	return func() (uint8, api.Fault) {
		here := place
		place++
		at, is := m.lead(here, api.Fetch)
		if !is {
			return 0, api.Fault{Cause: api.NoFetch, Addr: here}
		}
		b, _ := m.mem.Byte(at)
		return b, api.Fault{}
	}
}

// lead is where an access goes.
func (m *Machine) lead(place uint32, kind int) (uint32, bool) {
	return walk.To(m.mem, m.state.CR[api.CRoot], api.Entries, m.state.PS, place, kind)
}

// reach is where a wish goes; 0 without one.
func (m *Machine) reach(wish api.Access) (uint32, api.Fault) {
	if wish.Size == 0 {
		return 0, api.Fault{}
	}
	at, is := m.lead(wish.Addr, wish.Kind)
	switch {
	case is:
		return at, api.Fault{}
	case wish.Kind == api.Write:
		return 0, api.Fault{Cause: api.NoWrite, Addr: wish.Addr}
	}
	return 0, api.Fault{Cause: api.NoRead, Addr: wish.Addr}
}

// read is what stands there, of a wish to write too, since OXchg needs it. So
// many bytes as an access has divide its address, so all of them lie on one
// page.
func (m *Machine) read(at uint32, size int) uint32 {
	var v uint32
	for k := range uint32(size) {
		b, _ := m.mem.Byte(at + k)
		v |= uint32(b) << (8 * k)
	}
	return v
}

// finish does all of a success. The state comes last: what is written is found
// by the one ahead of it.
func (m *Machine) finish(s success) {
	if s.wish.Kind == api.Write {
		m.soil(s.wish.Addr)
		m.write(s.at, s.wish)
	}
	if s.takes {
		m.devices.Read(s.port)
	}
	if s.puts {
		m.devices.Write(s.port, s.value)
	}
	m.state = s.next
	m.steps++
}

// soil marks the entry by which a page is found.
func (m *Machine) soil(place uint32) {
	if m.state.PS&api.PPage == 0 {
		return
	}
	if way, is := walk.Look(m.mem, m.state.CR[api.CRoot], api.Entries, place); is {
		walk.Soil(m.mem, way.Entry)
	}
}

func (m *Machine) write(at uint32, wish api.Access) {
	for k := range uint32(wish.Size) {
		m.mem.SetByte(at+k, uint8(wish.Value>>(8*k)))
	}
}
