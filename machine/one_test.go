package machine_test

import (
	"bytes"
	"testing"

	"mummer/api"
)

// all is an entry that lets everything.
const all = api.EThere | api.EWrite | api.EUser

// paged is a memory of eight frames: a directory in frame 0, whose first entry
// leads to the table in frame 1 and whose last one to that in frame 2; the
// addresses 0, 64, 128 .. lead to the frames 3, 4, 5, 0, 1, 2, each with all;
// 15*1024 + 960, the last page of the space, to frame 6.
func paged() []byte {
	b := make([]byte, 8*64)
	setWord(b, 0, 64|all)
	setWord(b, 60, 128|all)
	for k, frame := range []uint32{3, 4, 5, 0, 1, 2} {
		setWord(b, 64+4*uint32(k), 64*frame|all)
	}
	setWord(b, 128+60, 6*64|all)
	return b
}

// place is a paged state at a place.
func place(pc, ps uint32) api.State {
	s := api.State{PC: pc, PS: api.PPage | ps}
	s.CR[api.CVector] = 0x40
	for k := range s.R {
		s.R[k] = uint32(1000 + k)
	}
	return s
}

func TestP12_4FetchWithoutPaging(t *testing.T) {
	ldi := []byte{0x20, 0x30, 1, 2, 3, 4}
	for _, c := range []struct {
		at    int
		cause int
		addr  uint32
	}{
		{0, 0, 0}, {60, 0, 0}, {122, 0, 0}, {123, api.NoFetch, 128}, {125, api.NoFetch, 128}, {127, api.NoFetch, 128},
	} {
		s := api.State{PC: uint32(c.at)}
		m, p := both(t, 2, laid(2, map[int][]byte{c.at: ldi}), s, nil, nil)
		if f := ones(t, m, p); f != (api.Fault{Cause: c.cause, Addr: c.addr}) {
			t.Errorf("at %d: %+v", c.at, f)
		}
		if c.cause == 0 && m.State().R[3] != 0x04030201 {
			t.Errorf("at %d: %+v", c.at, m.State())
		}
	}
	for _, pc := range []uint32{128, 129, 16384, 0x7fffffff, 0x80000000, 0xfffffffe, 0xffffffff} {
		m, p := both(t, 2, nil, api.State{PC: pc}, nil, nil)
		if f := ones(t, m, p); f != (api.Fault{Cause: api.NoFetch, Addr: pc}) {
			t.Errorf("at %#x: %+v", pc, f)
		}
	}
}

func TestP12_4FetchOverTwoPages(t *testing.T) {
	ldi := []byte{0x20, 0x30, 1, 2, 3, 4}
	for behind := range uint32(6) { // how many bytes lie on the second page
		for _, second := range []uint32{5*64 | all, 5*64 | all | api.ECode, 0, 5 * 64, 8*64 | all, 5*64 | api.EThere} {
			for _, ring := range []uint32{0, api.PUser} {
				b := paged()
				setWord(b, 64+8, second)
				first, rest := ldi[:6-behind], ldi[6-behind:]
				copy(b[4*64+64-len(first):], first)
				copy(b[5*64:], rest)
				pc := 128 - uint32(len(first))
				m, p := both(t, 8, b, place(pc, ring), nil, nil)
				want := api.Fault{}
				within := second&1 != 0 && second < 512 && (ring == 0 || second&api.EUser != 0)
				if behind > 0 && !within {
					want = api.Fault{Cause: api.NoFetch, Addr: 128}
				}
				if f := ones(t, m, p); f != want {
					t.Fatalf("%d behind, entry %#x, ring %d: %+v", behind, second, ring, f)
				}
				if want.Cause == 0 && (m.State().R[3] != 0x04030201 || m.State().PC != pc+6) {
					t.Fatalf("%d behind: %+v", behind, m.State())
				}
			}
		}
	}
}

func TestP12_4FetchAtTheSpacesEnd(t *testing.T) {
	for _, c := range []struct {
		code []byte
		want api.Fault
		pc   uint32
	}{
		{[]byte{0}, api.Fault{}, 16384},
		{[]byte{0x11, 0x12}, api.Fault{}, 16384},
		{[]byte{0x20, 0x30, 1, 2, 3, 4}, api.Fault{}, 16384},
		{[]byte{0x11}, api.Fault{Cause: api.NoFetch, Addr: 16384}, 0x40},
		{[]byte{0x20, 0x30, 1}, api.Fault{Cause: api.NoFetch, Addr: 16384}, 0x40},
		{[]byte{0x20, 0xff, 1}, api.Fault{Cause: api.NoFetch, Addr: 16384}, 0x40}, // ahead of what is refused
		{[]byte{0x70}, api.Fault{Cause: api.Undecodable, Addr: 16383}, 0x40},
	} {
		b := paged()
		copy(b[7*64-len(c.code):], c.code)
		m, p := both(t, 8, b, place(16384-uint32(len(c.code)), 0), nil, nil)
		if f := ones(t, m, p); f != c.want || m.State().PC != c.pc {
			t.Errorf("% x: %+v, PC %d", c.code, f, m.State().PC)
		}
	}
	m, p := both(t, 8, paged(), place(16384, 0), nil, nil)
	if f := ones(t, m, p); f != (api.Fault{Cause: api.NoFetch, Addr: 16384}) {
		t.Errorf("beyond the space: %+v", f)
	}
}

// TestP12_4NoOperation: the byte behind what is no operation is not asked for.
func TestP12_4NoOperation(t *testing.T) {
	for op := range 256 {
		for _, pc := range []uint32{5, 63} {
			b := make([]byte, 64)
			b[pc] = byte(op)
			m, p := both(t, 1, b, api.State{PC: pc, PS: 0xf2}, nil, nil)
			f := ones(t, m, p)
			switch {
			case length(byte(op)) == 0 && f != api.Fault{Cause: api.Undecodable, Addr: pc}:
				t.Errorf("%#x at %d: %+v", op, pc, f)
			case length(byte(op)) > 1 && pc == 63 && f != api.Fault{Cause: api.NoFetch, Addr: 64}:
				t.Errorf("%#x at %d: %+v", op, pc, f)
			}
		}
	}
}

// TestP12_4RefusedWhenDecoded tries each second byte of each operation.
func TestP12_4RefusedWhenDecoded(t *testing.T) {
	for op := range 256 {
		for second := range 256 {
			code := []byte{byte(op), byte(second), 4, 0, 0, 0}
			s := api.State{PC: 7}
			s.R = [8]uint32{8, 12, 16, 20, 24, 28, 32, 36}
			m, p := both(t, 1, laid(1, map[int][]byte{7: code}), s, nil, nil)
			f := ones(t, m, p)
			size := length(byte(op))
			none := size == 0 || refused(code[:size])
			if none != (f == api.Fault{Cause: api.Undecodable, Addr: 7}) {
				t.Fatalf("% x: %+v", code, f)
			}
		}
	}
}

func TestP12_4Halted(t *testing.T) {
	for _, code := range [][]byte{nil, {0x19, 0}, {0xff}, {0x31, 0, 8}} {
		m, p := both(t, 1, code, api.State{Halted: true, PS: 2}, []api.Event{{}}, nil)
		if f := ones(t, m, p); f != (api.Fault{}) || m.Steps() != 0 || len(m.Notes()) != 0 {
			t.Errorf("% x: %+v", code, f)
		}
	}
}

// forbidden are the four that the user ring must not ask for.
func forbidden() []api.Ins {
	return []api.Ins{{Op: api.OHlt}, {Op: api.OWrcr, A: 1, B: 0}, {Op: api.OIn, A: 1}, {Op: api.OOut, A: 1}}
}

func TestP12_4Sense(t *testing.T) {
	for _, i := range forbidden() {
		s := api.State{PS: api.PUser}
		s.R[1] = 65
		m, p := both(t, 1, program(t, i), s, []api.Event{{Kind: 1, Byte: 9}}, nil)
		comes(t, m, p)
		if f := ones(t, m, p); f != (api.Fault{Cause: api.Forbidden}) {
			t.Errorf("%+v: %+v", i, f)
		}
		if x := m.Save(); len(x.Queue) != 1 || len(x.Out) != 0 {
			t.Errorf("%+v: a port was reached", i)
		}
	}
	for op := range 256 {
		for _, ring := range []uint32{0, 1} {
			for _, rest := range []uint32{0, 2, 0xf2} {
				s := api.State{PC: 3, PS: ring | rest}
				s.R = [8]uint32{0xff, 2, 3, 4, 5, 6, 7, 8}
				s.CR = [8]uint32{64, 20, 30, 0xfff, 5, 6, 7, 8}
				m, p := both(t, 2, laid(2, map[int][]byte{3: {byte(op), 0x03}}), s, nil, nil)
				ones(t, m, p)
			}
		}
	}
}

func TestP12_4Ports(t *testing.T) {
	for port := range uint8(8) {
		for _, v := range []uint32{0, 1, 2, 3, 7, 8, 64, 0x141, 0xffffffff} {
			s := api.State{}
			s.R[1] = v
			code := program(t,
				api.Ins{Op: api.OIn, A: 2, B: port}, api.Ins{Op: api.OOut, A: 1, B: port},
				api.Ins{Op: api.OIn, A: 3, B: port}, api.Ins{Op: api.OIn, A: 4, B: port}, api.Ins{Op: api.OHlt})
			m, p := both(t, 1, code, s, []api.Event{{Kind: 1, Byte: 70}, {Kind: 1, Byte: 71}, {At: 1}}, row(128, 1))
			for m.State().PC < 8 {
				comes(t, m, p)
				ones(t, m, p)
			}
		}
	}
	m, p := both(t, 1, program(t, api.Ins{Op: api.OIn, A: 2}, api.Ins{Op: api.OIn, A: 3}, api.Ins{Op: api.OIn, A: 4}), api.State{}, []api.Event{{Kind: 1, Byte: 70}, {Kind: 1, Byte: 71}}, nil)
	runs(t, m, p, 3)
	if r := m.State().R; r[2] != 70 || r[3] != 71 || r[4] != 0xffffffff {
		t.Errorf("read %v", r)
	}
}

func TestP12_4MemoryWithoutPaging(t *testing.T) {
	for op := api.OLd; op <= api.OXchg; op++ {
		for _, at := range []uint32{0, 1, 2, 3, 4, 59, 60, 61, 62, 63, 64, 65, 66, 68, 0xfffffffc, 0xffffffff, 1 << 31} {
			s := api.State{PC: 16, PS: 0xf0}
			s.R = [8]uint32{0x89abcdef, 1, at, 3, 4, 5, 6, at}
			if op == api.OPush {
				s.R[7] = at + 4
			}
			i := api.Ins{Op: op, A: 0}
			if op != api.OPush && op != api.OPop {
				i.B = 2
			}
			was := row(64, 100)
			copy(was[16:], program(t, i))
			m, p := both(t, 1, was, s, nil, nil)
			f := ones(t, m, p)
			size := []uint32{4, 4, 1, 1, 2, 2, 1, 2, 4, 4, 4}[op-api.OLd]
			writes := op == api.OSt || op == api.OStb || op == api.OSth || op == api.OPush || op == api.OXchg
			want := api.Fault{}
			switch {
			case at%size != 0:
				want = api.Fault{Cause: api.Misaligned, Addr: at}
			case at >= 64 && writes:
				want = api.Fault{Cause: api.NoWrite, Addr: at}
			case at >= 64:
				want = api.Fault{Cause: api.NoRead, Addr: at}
			}
			if f != want {
				t.Errorf("%#x at %#x: %+v, want %+v", op, at, f, want)
			}
			if (want.Cause != 0 || !writes) != bytes.Equal(flat(m.RAM()), was) {
				t.Errorf("%#x at %#x: the memory is % x", op, at, flat(m.RAM()))
			}
		}
	}
}

func TestP12_4MemoryWithPaging(t *testing.T) {
	for op := api.OLd; op <= api.OXchg; op++ {
		for high := range uint32(64) {
			for low := range uint32(64) {
				for _, ring := range []uint32{0, api.PUser} {
					if high != 7 && low != 7 && (high+low)%5 != 0 {
						continue
					}
					b := paged()
					setWord(b, 60, 128|high)
					setWord(b, 128+60, 6*64|low)
					i := api.Ins{Op: op, A: 0}
					if op != api.OPush && op != api.OPop {
						i.B = 2
					}
					copy(b[3*64:], program(t, i))
					s := place(0, ring)
					s.R[0], s.R[2], s.R[7] = 0x89abcdef, 16376, 16376
					m, p := both(t, 8, b, s, nil, nil)
					m.One()
					p.one()
					if m.State() != p.s || !bytes.Equal(flat(m.RAM()), p.mem) {
						t.Fatal(p.faults(m))
					}
				}
			}
		}
	}
}

// TestP12_4Order has instructions of which several faults could be told.
func TestP12_4Order(t *testing.T) {
	for _, c := range []struct {
		name string
		code []byte
		ps   uint32
		want api.Fault
	}{
		{"no operation at the last place", []byte{0xff}, 0, api.Fault{Cause: api.Undecodable, Addr: 63}},
		{"hlt in the user ring, where nothing stands behind it", []byte{1}, 1, api.Fault{Cause: api.Forbidden}},
		{"half an out in the user ring", []byte{0x65}, 1, api.Fault{Cause: api.NoFetch, Addr: 64}},
		{"a refused out in the user ring", []byte{0x65, 0x88}, 1, api.Fault{Cause: api.Undecodable, Addr: 62}},
		{"out in the user ring", []byte{0x65, 0x00}, 1, api.Fault{Cause: api.Forbidden}},
		{"half a misaligned load", []byte{0x30, 0x01}, 0, api.Fault{Cause: api.NoFetch, Addr: 64}},
		{"a refused misaligned load", []byte{0x30, 0x81, 0}, 0, api.Fault{Cause: api.Undecodable, Addr: 61}},
		{"a misaligned load from nowhere", []byte{0x30, 0x01, 0}, 0, api.Fault{Cause: api.Misaligned, Addr: 0x1001}},
		{"a misaligned store to nowhere", []byte{0x31, 0x01, 0}, 0, api.Fault{Cause: api.Misaligned, Addr: 0x1001}},
		{"a load from nowhere", []byte{0x30, 0x01, 3}, 0, api.Fault{Cause: api.NoRead, Addr: 0x1004}},
		{"a store to nowhere", []byte{0x31, 0x01, 3}, 0, api.Fault{Cause: api.NoWrite, Addr: 0x1004}},
		{"an exchange with nowhere", []byte{0x3a, 0x02}, 0, api.Fault{Cause: api.NoWrite, Addr: 0x2000}},
		{"a push to nowhere", []byte{0x38, 0x00}, 0, api.Fault{Cause: api.NoWrite, Addr: 0x2ffc}},
		{"a pop from nowhere", []byte{0x39, 0x00}, 0, api.Fault{Cause: api.NoRead, Addr: 0x3000}},
		{"a division", []byte{0x19, 0x13}, 0, api.Fault{Cause: api.Division}},
		{"a rest", []byte{0x1e, 0x13}, 1, api.Fault{Cause: api.Division}},
		{"a trap", []byte{0x50, 0xfe}, 1, api.Fault{Cause: api.Asked, Addr: 0xfe}},
	} {
		s := api.State{PC: uint32(64 - len(c.code)), PS: c.ps}
		s.R = [8]uint32{5, 0x1001, 0x2000, 0, 4, 5, 6, 0x3000}
		s.CR = [8]uint32{9, 40, 9, 9, 9, 9, 9, 9}
		m, p := both(t, 1, laid(1, map[int][]byte{64 - len(c.code): c.code}), s, nil, nil)
		puts(t, m, p, s, 6)
		was := flat(m.RAM())
		if f := ones(t, m, p); f != c.want {
			t.Errorf("%s: %+v, want %+v", c.name, f, c.want)
		}
		back := s.PC
		if c.want.Cause == api.Asked {
			back += 2
		}
		now := m.State()
		if now.R != s.R || now.PC != 40 || now.Halted || now.CR != [8]uint32{9, 40, back, c.ps, uint32(c.want.Cause), c.want.Addr, 9, 9} {
			t.Errorf("%s: %+v", c.name, now)
		}
		if l := m.Notes(); len(l) != 1 || l[0] != (api.Note{At: 6, Cause: c.want.Cause, Back: back, Addr: c.want.Addr}) || m.Steps() != 7 {
			t.Errorf("%s: %v, %d", c.name, l, m.Steps())
		}
		if !bytes.Equal(flat(m.RAM()), was) {
			t.Errorf("%s: the memory has turned", c.name)
		}
	}
}

func TestP12_4SoilsTheEntry(t *testing.T) {
	store := program(t, api.Ins{Op: api.OSt, A: 1, B: 2})
	for _, paging := range []bool{true, false} {
		b := paged()
		s := place(0, 0)
		s.R[1], s.R[2] = 0x01020304, 64
		copy(b[3*64:], store)
		if !paging {
			s.PC, s.PS, s.R[2] = 3*64, 0, 4*64
		}
		m, p := both(t, 8, b, s, nil, nil)
		ones(t, m, p)
		want := uint32(4*64 | all)
		if paging {
			want |= api.EDirty
		}
		now := flat(m.RAM())
		if got := getWord(now, 68); got != want {
			t.Errorf("paging %t: the entry is %#x, want %#x", paging, got, want)
		}
		if getWord(now, 0) != 64|all || getWord(now, 64) != 3*64|all || getWord(now, 4*64) != 0x01020304 {
			t.Errorf("paging %t: % x", paging, now)
		}
	}
}

// TestP12_4WhatIsReadSoilsNothing: nor does what comes to a fault.
func TestP12_4WhatIsReadSoilsNothing(t *testing.T) {
	for _, i := range []api.Ins{{Op: api.OLd, A: 1, B: 2}, {Op: api.OPop, A: 1}, {Op: api.ONop}, {Op: api.OSt, A: 1, B: 2, Imm: 1}, {Op: api.OSt, A: 1, B: 3}, {Op: api.ODiv, A: 1, B: 0}} {
		b := paged()
		copy(b[3*64:], program(t, i))
		s := place(0, 0)
		s.R[0], s.R[2], s.R[3], s.R[7] = 0, 64, 1024, 64
		m, p := both(t, 8, b, s, nil, nil)
		ones(t, m, p)
		if !bytes.Equal(flat(m.RAM()), b) {
			t.Errorf("%+v: the memory has turned", i)
		}
	}
}

// TestP12_4WritesIntoTheTables: what is written lies in the very entry by which
// it is found (the page 256 is frame 1, the table, whose entry 4 is its own).
func TestP12_4WritesIntoTheTables(t *testing.T) {
	own := uint32(256 + 16)
	for _, c := range []struct {
		name string
		i    api.Ins
		v    uint32
		want uint32
		read uint32
	}{
		{"a word over it", api.Ins{Op: api.OSt, A: 1, B: 2}, 64 | 7, 64 | 7, 64 | 7},
		{"a byte over its lowest one", api.Ins{Op: api.OStb, A: 1, B: 2}, 0x43, 0x43, 0x43},
		{"a byte over its highest one", api.Ins{Op: api.OStb, A: 1, B: 2, Imm: 3}, 0xaa, 0xaa000057, 0xaa},
		{"a half over its upper one", api.Ins{Op: api.OSth, A: 1, B: 2, Imm: 2}, 0x1234, 0x12340057, 0x1234},
		{"a word that is exchanged", api.Ins{Op: api.OXchg, A: 1, B: 2}, 0, 0, 64 | 7},
	} {
		b := paged()
		copy(b[3*64:], program(t, c.i))
		s := place(0, 0)
		s.R[1], s.R[2] = c.v, own
		m, p := both(t, 8, b, s, nil, nil)
		if f := ones(t, m, p); f.Cause != 0 {
			t.Errorf("%s: %+v", c.name, f)
		}
		if got := getWord(flat(m.RAM()), 64+16); got != c.want || m.State().R[1] != c.read {
			t.Errorf("%s: %#x, want %#x; read %#x", c.name, got, c.want, m.State().R[1])
		}
		runs(t, m, p, 3)
	}
}

// TestP12_4WritesOverItself: an instruction that writes over itself and the next
// one is done as it was fetched, the next one as it stands then.
func TestP12_4WritesOverItself(t *testing.T) {
	for _, paging := range []bool{true, false} {
		b := paged()
		copy(b[3*64:], program(t, api.Ins{Op: api.OSt, A: 1, B: 2}, api.Ins{Op: api.ONop}))
		s := place(0, 0)
		s.R[1], s.R[2] = 0x01ffffff, 0
		if !paging {
			s.PC, s.PS, s.R[2] = 3*64, 0, 3*64
		}
		m, p := both(t, 8, b, s, nil, nil)
		if f := ones(t, m, p); f.Cause != 0 {
			t.Errorf("paging %t: %+v", paging, f)
		}
		if f := ones(t, m, p); f.Cause != 0 || !m.State().Halted {
			t.Errorf("paging %t: %+v, %+v", paging, f, m.State())
		}
	}
}

// TestP12_4NothingIsRemembered: an entry that turns holds from the next access on,
// without a flush.
func TestP12_4NothingIsRemembered(t *testing.T) {
	b := paged()
	copy(b[3*64:], program(t,
		api.Ins{Op: api.OLd, A: 3, B: 4},         // by the page 64
		api.Ins{Op: api.OSt, A: 1, B: 2, Imm: 4}, // which leads to frame 7 now
		api.Ins{Op: api.OLd, A: 5, B: 4}))
	setWord(b, 4*64, 111)
	setWord(b, 7*64, 222)
	s := place(0, 0)
	s.R[1], s.R[2], s.R[4] = 7*64|all, 256, 64
	m, p := both(t, 8, b, s, nil, nil)
	runs(t, m, p, 3)
	if r := m.State().R; r[3] != 111 || r[5] != 222 {
		t.Errorf("read %v", r)
	}
}

// TestP12_4DirectoryOf16: the table's first entry, behind the directory's last
// one, would lead on as a seventeenth, were there so many.
func TestP12_4DirectoryOf16(t *testing.T) {
	b := paged()
	setWord(b, 3*64, 5*64|all)
	copy(b[3*64+4:], program(t, api.Ins{Op: api.OLd, A: 1, B: 2}))
	s := place(4, 0)
	s.R[2] = 16384
	m, p := both(t, 8, b, s, nil, nil)
	if f := ones(t, m, p); f != (api.Fault{Cause: api.NoRead, Addr: 16384}) {
		t.Errorf("%+v", f)
	}
}

// TestP12_4Roots: the lowest six bits of CRoot count for nothing; from frame 7,
// and from beyond the memory, nothing leads anywhere.
func TestP12_4Roots(t *testing.T) {
	for _, root := range []uint32{0, 1, 63, 448, 449, 512, 0xffffffc0, 0xffffffff} {
		b := paged()
		copy(b[3*64:], program(t, api.Ins{Op: api.OLd, A: 1, B: 2}))
		s := place(0, 0)
		s.CR[0], s.R[2] = root, 64
		m, p := both(t, 8, b, s, nil, nil)
		want := api.Fault{}
		if root >= 448 {
			want.Cause = api.NoFetch
		}
		if f := ones(t, m, p); f != want {
			t.Errorf("root %d: %+v", root, f)
		}
	}
}
