package host

import (
	"mummer/api"
	"mummer/core"
	"mummer/isa"
	"mummer/sense"
	"mummer/walk"
)

// ending is what a run gives up with: its exit, but for how many instructions
// it did.
type ending api.Exit

// fail ends a run by a fault.
func fail(cause int, addr uint32) {
	panic(ending{Kind: api.XFault, Cause: cause, Addr: addr})
}

// run comes to its end by a panic always. Whatever gives up has turned nothing
// of the state yet; but for a tally at its limit, which is done first.
func (h *Host) run(most int) (x api.Exit) {
	done := 0
	defer func() {
		if e, is := recover().(ending); is {
			x = api.Exit(e)
			x.N = done
		}
	}()
	for done < most {
		i := h.fetch()
		h.do(i)
		done++
		if i.Op == api.OTally && h.count >= h.limit {
			panic(ending{Kind: api.XTally})
		}
	}
	panic(ending{Kind: api.XSpent})
}

// fetch is the instruction at PC. It takes one byte more as long as there are
// too few, each by a way of its own, since an instruction may lie on two pages.
func (h *Host) fetch() api.Ins {
	var bytes []byte
	for {
		i, _, e := isa.Decode(bytes, h.tallies)
		switch e {
		case api.OK:
			return i
		case api.ErrDecode:
			fail(api.Undecodable, h.state.PC)
		}
		at := h.lead(h.state.PC+uint32(len(bytes)), api.Fetch)
		b, _ := h.mem.Byte(at)
		bytes = append(bytes, b)
	}
}

// do does an instruction, or gives up with what it hands out.
func (h *Host) do(i api.Ins) {
	switch i.Op {
	case api.OLeave:
		panic(ending{Kind: api.XLeave, Addr: uint32(i.Imm)})
	case api.OTrap:
		panic(ending{Kind: api.XTrap, Addr: uint32(i.Imm)})
	case api.OTally:
		h.state.PC += uint32(isa.Size(i.Op, true))
		h.count += int(i.Imm)
		return
	}
	// The ring is the host's own, also of a state that was never loaded.
	next, effect := sense.Do(inRing(h.state), i, 0)
	switch effect.Cause {
	case 0:
		h.state = next
	case api.Undecodable: // it was decoded, so it is only none of layer 9
		h.doPlain(i)
	default:
		fail(effect.Cause, 0)
	}
}

// doPlain does an instruction of layer 8.
func (h *Host) doPlain(i api.Ins) {
	wish, f := core.Want(h.state, i)
	refuse(f)
	var at, v uint32
	if wish.Size > 0 {
		at = h.lead(wish.Addr, wish.Kind)
		v = h.read(at, wish.Size)
	}
	next, f := core.Do(h.state, i, v)
	refuse(f)
	if wish.Size > 0 {
		h.touched[int(at/api.PageSize)] = struct{}{}
	}
	if wish.Kind == api.Write {
		h.soil(wish.Addr)
		h.write(at, wish)
	}
	h.state = next
}

func refuse(f api.Fault) {
	if f.Cause != 0 {
		fail(f.Cause, f.Addr)
	}
}

// lead is where an access goes.
func (h *Host) lead(va uint32, kind int) uint32 {
	bits, frame, is := h.way(va)
	if !is || !walk.May(bits, kind, true) {
		fail(nowhere(kind), va)
	}
	return uint32(frame)*api.PageSize + va%api.PageSize
}

// nowhere is the cause of the fault to which an access comes that leads nowhere.
func nowhere(kind int) int {
	switch kind {
	case api.Read:
		return api.NoRead
	case api.Write:
		return api.NoWrite
	}
	return api.NoFetch
}

// way is what is known of an address's page: what is remembered, right or
// wrong, and only then what the tables say.
func (h *Host) way(va uint32) (bits uint32, frame int, is bool) {
	page := va / api.PageSize
	if bits, frame, is = h.ways.Look(page); is {
		return bits, frame, true
	}
	way, is := h.look(va)
	if is {
		h.ways.Put(page, way.Bits, way.Page)
	}
	return way.Bits, way.Page, is
}

// look is what the tables say of an address now.
func (h *Host) look(va uint32) (api.Way, bool) {
	return walk.Look(h.mem, h.state.CR[api.CRoot], api.HostDirs, va)
}

// soil marks the entry by which a page is found now; there may be none any more
// of a page that is remembered.
func (h *Host) soil(va uint32) {
	if way, is := h.look(va); is {
		walk.Soil(h.mem, way.Entry)
	}
}

// read is what stands there, of a wish to write too, since OXchg needs it. So
// many bytes as an access has divide its address, so all of them lie on one
// page.
func (h *Host) read(at uint32, size int) uint32 {
	var v uint32
	for k := range uint32(size) {
		b, _ := h.mem.Byte(at + k)
		v |= uint32(b) << (8 * k)
	}
	return v
}

func (h *Host) write(at uint32, wish api.Access) {
	for k := range uint32(wish.Size) {
		h.mem.SetByte(at+k, uint8(wish.Value>>(8*k)))
	}
}
