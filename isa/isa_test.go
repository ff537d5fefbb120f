package isa_test

import (
	"bytes"
	"math"
	"testing"

	"mummer/api"
	"mummer/isa"
)

// shape is the test's own reading of the chapter's table: one row for each
// operation, typed out, with the bytes by letters: o the operation, a a byte
// of A alone, b a byte of A and B, i a byte of Imm.
type shape struct {
	name      string
	bytes     string
	low, high int64
}

// shapes has every operation that is there for a guest, or for a host.
func shapes(host bool) map[uint8]shape {
	alone := shape{"alone", "o", 0, 0}
	one := shape{"A", "oa", 0, 0}
	two := shape{"A, B", "ob", 0, 0}
	byteForm := shape{"byte", "oi", 0, 255}
	small := shape{"A, small", "oai", -128, 127}
	beside := shape{"A, B, small", "obi", -128, 127}
	far := shape{"far", "oii", -32768, 32767}
	number := shape{"number", "oii", 0, 65535}
	wide := shape{"A, wide", "oaiiii", math.MinInt32, math.MaxInt32}
	all := map[uint8]shape{
		0x00: alone, 0x01: alone, 0x02: alone, 0x03: alone,
		0x10: two, 0x11: two, 0x12: two, 0x13: two, 0x14: two, 0x15: two, 0x16: two, 0x17: two,
		0x18: two, 0x19: two, 0x1a: two, 0x1b: two, 0x1c: two, 0x1d: two, 0x1e: two, 0x1f: two,
		0x20: wide, 0x21: small,
		0x30: beside, 0x31: beside, 0x32: beside, 0x33: beside, 0x34: beside, 0x35: beside, 0x36: beside, 0x37: beside,
		0x38: one, 0x39: one, 0x3a: two,
		0x40: far, 0x41: far, 0x42: far, 0x43: far, 0x44: far, 0x45: far, 0x46: far, 0x47: far, 0x48: far,
		0x49: one, 0x4a: one,
		0x50: byteForm,
		0x60: one, 0x61: one, 0x62: two, 0x63: two, 0x64: two, 0x65: two,
	}
	if host {
		all[0x70] = byteForm
		all[0x71] = number
	}
	return all
}

// hostsAndGuests runs a test for both.
func hostsAndGuests(t *testing.T, test func(t *testing.T, host bool, all map[uint8]shape)) {
	for _, host := range []bool{false, true} {
		name := "guest"
		if host {
			name = "host"
		}
		t.Run(name, func(t *testing.T) { test(t, host, shapes(host)) })
	}
}

func (s shape) has(letters string) bool { return bytes.ContainsAny([]byte(s.bytes), letters) }

// may is the reference of May.
func (s shape) may(i api.Ins) bool {
	topA, topB := uint8(0), uint8(0)
	if s.has("ab") {
		topA = 7
	}
	if s.has("b") {
		topB = 7
	}
	return i.A <= topA && i.B <= topB && int64(i.Imm) >= s.low && int64(i.Imm) <= s.high
}

// encode is the reference of Encode, for what may be: numbers below 0 are
// made whole by a power of 2, and cut by division.
func (s shape) encode(i api.Ins) []byte {
	rest := int64(i.Imm)
	if rest < 0 {
		rest += 1 << 32
	}
	var b []byte
	for _, letter := range s.bytes {
		switch letter {
		case 'o':
			b = append(b, i.Op)
		case 'a':
			b = append(b, 16*i.A)
		case 'b':
			b = append(b, 16*i.A+i.B)
		case 'i':
			b = append(b, byte(rest%256))
			rest /= 256
		}
	}
	return b
}

// numbers are the ends of every form's range, one beyond each, and some
// between.
var numbers = []int32{
	0, 1, -1, 2, -2, 7, 8, 126, 127, 128, 129, -127, -128, -129, 254, 255, 256, 257, -255, -256,
	32766, 32767, 32768, -32767, -32768, -32769, 65534, 65535, 65536, -65535, -65536,
	0x01020304, -0x01020304, 0x7f80ff00, 1 << 24, 1<<24 - 1,
	math.MaxInt32, math.MaxInt32 - 1, math.MinInt32, math.MinInt32 + 1,
}

// registers are each that may be, and some that may not: 16 and 24 are 0 and
// 8 in a half of a byte.
var registers = []uint8{0, 1, 2, 3, 4, 5, 6, 7, 8, 9, 15, 16, 17, 23, 24, 128, 255}

// everyIns hands out every operation, there or not, with all those fields.
func everyIns(yield func(i api.Ins)) {
	for op := range 256 {
		for _, a := range registers {
			for _, b := range registers {
				for _, imm := range numbers {
					yield(api.Ins{Op: uint8(op), A: a, B: b, Imm: imm})
				}
			}
		}
	}
}

func refused(i api.Ins, n int) bool { return i == api.Ins{} && n == 0 }

func TestP2_1Size(t *testing.T) {
	hostsAndGuests(t, func(t *testing.T, host bool, all map[uint8]shape) {
		for op := range 256 {
			want := len(all[uint8(op)].bytes)
			if got := isa.Size(uint8(op), host); got != want {
				t.Errorf("Size(%#x) = %d, want %d", op, got, want)
			}
		}
	})
}

func TestP2_1SizeOfEachName(t *testing.T) {
	for want, ops := range map[int][]uint8{
		1: {api.ONop, api.OHlt, api.OIret, api.OFlush},
		2: {api.OJr, api.OCallr, api.OPush, api.OPop, api.ORdps, api.OWrps, api.OMov, api.OAdd, api.OSub, api.OAnd, api.OOr, api.OXor,
			api.OShl, api.OShr, api.OMul, api.ODiv, api.OCmp, api.ORor, api.OSar, api.OMulh, api.ORem, api.OTst,
			api.OXchg, api.ORdcr, api.OWrcr, api.OIn, api.OOut, api.OTrap},
		3: {api.OAddi, api.OLd, api.OSt, api.OLdb, api.OStb, api.OLdh, api.OSth, api.OLdsb, api.OLdsh,
			api.OJmp, api.OBeq, api.OBne, api.OBlt, api.OBge, api.OBlo, api.OBhs, api.OBvs, api.OCall},
		6: {api.OLdi},
	} {
		for _, op := range ops {
			for _, host := range []bool{false, true} {
				if got := isa.Size(op, host); got != want {
					t.Errorf("Size(%#x, %v) = %d, want %d", op, host, got, want)
				}
			}
		}
	}
	if isa.Size(api.OTally, true) != 2 || isa.Size(api.OLeave, true) != 3 {
		t.Error("the operations of hosts, for a host")
	}
	if isa.Size(api.OTally, false) != 0 || isa.Size(api.OLeave, false) != 0 {
		t.Error("the operations of hosts, for a guest")
	}
}

func TestP2_2MayAndEncode(t *testing.T) {
	hostsAndGuests(t, func(t *testing.T, host bool, all map[uint8]shape) {
		everyIns(func(i api.Ins) {
			s, there := all[i.Op]
			want := there && s.may(i)
			if got := isa.May(i, host); got != want {
				t.Fatalf("May(%+v) = %v, want %v", i, got, want)
			}
			b, e := isa.Encode(i, host)
			if !want {
				if e != api.ErrArg || len(b) != 0 {
					t.Fatalf("Encode(%+v) = % x, %d, want ErrArg", i, b, int(e))
				}
				return
			}
			if e != api.OK || !bytes.Equal(b, s.encode(i)) {
				t.Fatalf("Encode(%+v) = % x, %d, want % x", i, b, int(e), s.encode(i))
			}
		})
	})
}

func TestP2_2Edges(t *testing.T) {
	for _, x := range []struct {
		i           api.Ins
		guest, host bool
	}{
		{api.Ins{Op: api.ONop}, true, true},
		{api.Ins{Op: api.ONop, A: 1}, false, false},
		{api.Ins{Op: api.OHlt, B: 1}, false, false},
		{api.Ins{Op: api.OIret, Imm: 1}, false, false},
		{api.Ins{Op: api.OPush, A: 7}, true, true},
		{api.Ins{Op: api.OPush, A: 8}, false, false},
		{api.Ins{Op: api.OPush, A: 7, B: 1}, false, false},
		{api.Ins{Op: api.OJr, A: 7, Imm: 1}, false, false},
		{api.Ins{Op: api.OTst, A: 7, B: 7}, true, true},
		{api.Ins{Op: api.OTst, A: 8, B: 7}, false, false},
		{api.Ins{Op: api.OTst, A: 7, B: 8}, false, false},
		{api.Ins{Op: api.OXchg, A: 7, B: 7, Imm: -1}, false, false},
		{api.Ins{Op: api.OTrap, Imm: 255}, true, true},
		{api.Ins{Op: api.OTrap, Imm: 256}, false, false},
		{api.Ins{Op: api.OTrap, Imm: -1}, false, false},
		{api.Ins{Op: api.OTrap, A: 1, Imm: 255}, false, false},
		{api.Ins{Op: api.OAddi, A: 7, Imm: -128}, true, true},
		{api.Ins{Op: api.OAddi, A: 7, Imm: -129}, false, false},
		{api.Ins{Op: api.OAddi, A: 7, Imm: 128}, false, false},
		{api.Ins{Op: api.OAddi, A: 7, B: 1, Imm: 127}, false, false},
		{api.Ins{Op: api.OLdsh, A: 7, B: 7, Imm: 127}, true, true},
		{api.Ins{Op: api.OLdsh, A: 7, B: 7, Imm: 128}, false, false},
		{api.Ins{Op: api.OCall, Imm: 32767}, true, true},
		{api.Ins{Op: api.OCall, Imm: 32768}, false, false},
		{api.Ins{Op: api.OBvs, Imm: -32768}, true, true},
		{api.Ins{Op: api.OBvs, Imm: -32769}, false, false},
		{api.Ins{Op: api.OBvs, A: 1}, false, false},
		{api.Ins{Op: api.OLdi, A: 7, Imm: math.MinInt32}, true, true},
		{api.Ins{Op: api.OLdi, A: 7, Imm: math.MaxInt32}, true, true},
		{api.Ins{Op: api.OLdi, A: 7, B: 7, Imm: 1}, false, false},
		{api.Ins{Op: api.OTally, Imm: 255}, false, true},
		{api.Ins{Op: api.OTally, Imm: 256}, false, false},
		{api.Ins{Op: api.OLeave, Imm: 65535}, false, true},
		{api.Ins{Op: api.OLeave, Imm: 65536}, false, false},
		{api.Ins{Op: api.OLeave, Imm: -1}, false, false},
		{api.Ins{Op: api.OLeave, B: 1}, false, false},
		{api.Ins{Op: 0x04}, false, false},
		{api.Ins{Op: 0x72}, false, false},
		{api.Ins{Op: 0xff}, false, false},
	} {
		if isa.May(x.i, false) != x.guest || isa.May(x.i, true) != x.host {
			t.Errorf("May(%+v)", x.i)
		}
	}
}

func TestP2_2EncodeAnswersNewMemory(t *testing.T) {
	i := api.Ins{Op: api.OLdi, A: 1, Imm: 5}
	first, _ := isa.Encode(i, false)
	second, _ := isa.Encode(i, false)
	want := bytes.Clone(second)
	for k := range first[:cap(first)] {
		first[:cap(first)][k] = 0xee
	}
	if third, _ := isa.Encode(i, false); !bytes.Equal(second, want) || !bytes.Equal(third, want) {
		t.Errorf("% x, % x, want % x", second, third, want)
	}
}

// decode is the reference of Decode, in the chapter's order.
func decode(b []byte, all map[uint8]shape) (api.Ins, int, api.Errno) {
	if len(b) == 0 {
		return api.Ins{}, 0, api.ErrShort
	}
	s, there := all[b[0]]
	if !there {
		return api.Ins{}, 0, api.ErrDecode
	}
	if len(b) < len(s.bytes) {
		return api.Ins{}, 0, api.ErrShort
	}
	i := api.Ins{Op: b[0]}
	number, worth := int64(0), int64(1)
	for k, letter := range s.bytes {
		switch letter {
		case 'a', 'b':
			i.A, i.B = b[k]/16, b[k]%16
			if i.A > 7 || i.B > 7 || letter == 'a' && i.B != 0 {
				return api.Ins{}, 0, api.ErrDecode
			}
		case 'i':
			number += int64(b[k]) * worth
			worth *= 256
		}
	}
	if number > s.high {
		number -= worth
	}
	i.Imm = int32(number)
	return i, len(s.bytes), api.OK
}

// everyStart hands out every pair of first bytes, with several rests, cut at
// every length, and a short tail.
func everyStart(yield func(b []byte)) {
	rests := []string{
		"\x00\x00\x00\x00\x00", "\x01\x02\x03\x04\x05", "\xff\xff\xff\xff\xff", "\x80\x00\x00\x00\x77",
		"\x7f\x00\x00\x80\x88", "\x00\x80\xff\x7f\x20", "\xff\x7f\x00\x00\x70", "\x00\x00\x80\x80\x11",
	}
	yield(nil)
	yield([]byte{})
	for first := range 256 {
		for second := range 256 {
			for _, rest := range rests {
				whole := append([]byte{byte(first), byte(second)}, rest...)
				for n := 1; n <= len(whole); n++ {
					yield(whole[:n:n])
				}
			}
		}
	}
}

func TestP2_3Decode(t *testing.T) {
	hostsAndGuests(t, func(t *testing.T, host bool, all map[uint8]shape) {
		everyStart(func(b []byte) {
			i, n, e := isa.Decode(b, host)
			wantI, wantN, wantE := decode(b, all)
			if i != wantI || n != wantN || e != wantE {
				t.Fatalf("Decode(% x) = %+v, %d, %d, want %+v, %d, %d", b, i, n, int(e), wantI, wantN, int(wantE))
			}
		})
	})
}

func TestP2_3Refusals(t *testing.T) {
	for _, x := range []struct {
		b           string
		guest, host api.Errno
	}{
		{"", api.ErrShort, api.ErrShort},
		{"\x04", api.ErrDecode, api.ErrDecode},
		{"\x0f\x00\x00\x00\x00\x00\x00", api.ErrDecode, api.ErrDecode},
		{"\x22", api.ErrDecode, api.ErrDecode},
		{"\x3b\x00\x00", api.ErrDecode, api.ErrDecode},
		{"\x4b\x00\x00", api.ErrDecode, api.ErrDecode},
		{"\x51\x00", api.ErrDecode, api.ErrDecode},
		{"\x66\x00", api.ErrDecode, api.ErrDecode},
		{"\x70", api.ErrDecode, api.ErrShort},
		{"\x71\x00", api.ErrDecode, api.ErrShort},
		{"\x72", api.ErrDecode, api.ErrDecode},
		{"\xff", api.ErrDecode, api.ErrDecode},
		{"\x38", api.ErrShort, api.ErrShort},
		{"\x10", api.ErrShort, api.ErrShort},
		{"\x50", api.ErrShort, api.ErrShort},
		{"\x21\x10", api.ErrShort, api.ErrShort},
		{"\x30\x12", api.ErrShort, api.ErrShort},
		{"\x40\x00", api.ErrShort, api.ErrShort},
		{"\x20\x00\x00\x00\x00", api.ErrShort, api.ErrShort},
		// too few bytes are told ahead of fields that may not be
		{"\x20\x81\x00\x00\x00", api.ErrShort, api.ErrShort},
		{"\x21\xff", api.ErrShort, api.ErrShort},
		{"\x30\x88", api.ErrShort, api.ErrShort},
		// A or B above 7
		{"\x38\x80", api.ErrDecode, api.ErrDecode},
		{"\x10\x80", api.ErrDecode, api.ErrDecode},
		{"\x10\x08", api.ErrDecode, api.ErrDecode},
		{"\x3a\xf7", api.ErrDecode, api.ErrDecode},
		{"\x21\x80\x00", api.ErrDecode, api.ErrDecode},
		{"\x30\x08\x00", api.ErrDecode, api.ErrDecode},
		{"\x20\x80\x00\x00\x00\x00", api.ErrDecode, api.ErrDecode},
		// a half that the form does not have
		{"\x38\x01", api.ErrDecode, api.ErrDecode},
		{"\x60\x77", api.ErrDecode, api.ErrDecode},
		{"\x21\x01\x00", api.ErrDecode, api.ErrDecode},
		{"\x20\x71\x00\x00\x00\x00", api.ErrDecode, api.ErrDecode},
	} {
		if i, n, e := isa.Decode([]byte(x.b), false); e != x.guest || !refused(i, n) {
			t.Errorf("a guest's % x: %+v, %d, %d", x.b, i, n, int(e))
		}
		if i, n, e := isa.Decode([]byte(x.b), true); e != x.host || !refused(i, n) {
			t.Errorf("a host's % x: %+v, %d, %d", x.b, i, n, int(e))
		}
	}
}

func TestP2_3DecodeLeavesTheBytes(t *testing.T) {
	room := []byte{0x20, 0x70, 1, 2, 3, 4, 5, 6}
	want := bytes.Clone(room)
	isa.Decode(room[:6], false)
	if !bytes.Equal(room, want) {
		t.Errorf("% x, want % x", room, want)
	}
}

func TestP2_4EncodedIsDecoded(t *testing.T) {
	hostsAndGuests(t, func(t *testing.T, host bool, _ map[uint8]shape) {
		count := 0
		everyIns(func(i api.Ins) {
			if !isa.May(i, host) {
				return
			}
			count++
			b, _ := isa.Encode(i, host)
			for _, behind := range []string{"", "\x00", "\xff\xff\xff\xff\xff\xff\xff", "\x11\x12\x80"} {
				got, n, e := isa.Decode(append(bytes.Clone(b), behind...), host)
				if got != i || n != len(b) || n != isa.Size(i.Op, host) || e != api.OK {
					t.Fatalf("%+v as % x and % x is %+v, %d, %d", i, b, behind, got, n, int(e))
				}
			}
		})
		if count == 0 {
			t.Error("no instruction may be")
		}
	})
}

func TestP2_4DecodedIsEncoded(t *testing.T) {
	hostsAndGuests(t, func(t *testing.T, host bool, _ map[uint8]shape) {
		count := 0
		everyStart(func(b []byte) {
			i, n, e := isa.Decode(b, host)
			if e != api.OK {
				return
			}
			count++
			if n < 1 || n > len(b) || !isa.May(i, host) {
				t.Fatalf("Decode(% x) = %+v, %d", b, i, n)
			}
			if again, e := isa.Encode(i, host); e != api.OK || !bytes.Equal(again, b[:n]) {
				t.Fatalf("% x is %+v, which is % x, %d", b, i, again, int(e))
			}
		})
		if count == 0 {
			t.Error("no bytes are an instruction")
		}
	})
}

func TestP2_4AHostDecodesAlike(t *testing.T) {
	everyStart(func(b []byte) {
		i, n, e := isa.Decode(b, false)
		if e != api.OK {
			return
		}
		if hostI, hostN, hostE := isa.Decode(b, true); hostI != i || hostN != n || hostE != e {
			t.Fatalf("% x is %+v, %d for a guest, and %+v, %d, %d for a host", b, i, n, hostI, hostN, int(hostE))
		}
	})
}

func TestExamples(t *testing.T) {
	for _, x := range []struct {
		i api.Ins
		b string
	}{
		{api.Ins{Op: api.OAdd, A: 1, B: 2}, "\x11\x12"},
		{api.Ins{Op: api.OLd, A: 3, B: 4, Imm: -4}, "\x30\x34\xfc"},
		{api.Ins{Op: api.OBeq, Imm: -2}, "\x41\xfe\xff"},
		{api.Ins{Op: api.OLdi, A: 7, Imm: 1}, "\x20\x70\x01\x00\x00\x00"},
	} {
		if b, e := isa.Encode(x.i, false); e != api.OK || string(b) != x.b {
			t.Errorf("Encode(%+v) = % x, %d", x.i, b, int(e))
		}
	}
	for b, want := range map[string]api.Errno{"\x11\x18\x00": api.ErrDecode, "\x11": api.ErrShort, "\x70\x01": api.ErrDecode} {
		if i, n, e := isa.Decode([]byte(b), false); e != want || !refused(i, n) {
			t.Errorf("Decode(% x) = %+v, %d, %d", b, i, n, int(e))
		}
	}
	want := api.Ins{Op: api.OTally, Imm: 1}
	if i, n, e := isa.Decode([]byte{0x70, 1}, true); i != want || n != 2 || e != api.OK {
		t.Errorf("%+v, %d, %d", i, n, int(e))
	}
}
