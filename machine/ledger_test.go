package machine_test

import "mummer/api"

// ledger is the test's own reading of the devices: the whole script and how
// much of it has come, all bytes that found room and how many of them were read,
// the disk as a row of bytes.
type ledger struct {
	script              []api.Event
	came                int
	found               []byte
	read                int
	out, disk           []byte
	waits, masked       uint32
	block, addr, status uint32
	given               [3]uint32
}

func (l *ledger) next(step int) (int, bool) {
	if l.came == len(l.script) {
		return 0, false
	}
	return max(0, l.script[l.came].At-max(0, step)), true
}

func (l *ledger) come(step int, mem []byte) (events []api.Event, frames []int) {
	for l.came < len(l.script) && l.script[l.came].At <= step {
		e := l.script[l.came]
		l.came++
		e.At = step
		events = append(events, e)
		switch {
		case e.Kind == 0:
			l.waits |= 1
		case e.Kind == 1:
			l.waits |= 2
			if len(l.found)-l.read < 32 {
				l.found = append(l.found, e.Byte)
			}
		case l.status == 1:
			l.waits |= 4
			frames = append(frames, l.move(mem)...)
		}
	}
	return events, frames
}

func (l *ledger) move(mem []byte) []int {
	kind, from, to := l.given[0], uint64(l.given[1]), uint64(l.given[2])
	l.given = [3]uint32{}
	if from*64 >= uint64(len(l.disk)) || to%64 != 0 || to >= uint64(len(mem)) {
		l.status = 2
		return nil
	}
	l.status = 0
	if kind == 2 {
		copy(l.disk[64*from:], mem[to:to+64])
		return nil
	}
	copy(mem[to:to+64], l.disk[64*from:])
	return []int{int(to / 64)}
}

// wants is the first cause that is waiting, and not masked.
func (l *ledger) wants(ps uint32) int {
	for k, bit := range []uint32{1, 2, 4} {
		if ps&2 != 0 && l.waits&bit != 0 && l.masked&bit == 0 {
			return 9 + k
		}
	}
	return 0
}

func (l *ledger) take(port uint32) uint32 {
	switch port {
	case 0:
		if l.read == len(l.found) {
			return 0xffffffff
		}
		l.read++
		return uint32(l.found[l.read-1])
	case 1:
		return uint32(len(l.found) - l.read)
	}
	return [6]uint32{l.block, l.addr, l.status, l.masked, l.waits, uint32(len(l.disk) / 64)}[port-2]
}

func (l *ledger) put(port, v uint32) {
	switch port {
	case 0:
		l.out = append(l.out, byte(v))
	case 2:
		l.block = v
	case 3:
		l.addr = v
	case 4:
		if l.status != 1 && (v == 1 || v == 2) {
			l.given, l.status = [3]uint32{v, l.block, l.addr}, 1
		}
	case 5:
		l.masked = v % 8
	case 6:
		l.waits &^= v
	}
}

func (l *ledger) save() api.Saved {
	return api.Saved{
		Out: l.out, Disk: l.disk, Queue: l.found[l.read:], Script: l.script[l.came:],
		Bits: l.waits, Mask: l.masked, Block: l.block, Addr: l.addr, Status: l.status,
		Kind: l.given[0], From: l.given[1], To: l.given[2],
	}
}
