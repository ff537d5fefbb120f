package text_test

import (
	"math"
	"math/big"
	"regexp"
	"slices"
	"strconv"
	"strings"
	"testing"

	"mummer/api"
	"mummer/text"
)

// shape is the test's own reading of the chapter: an operation's text with A,
// B and # in the places of its fields, and between which numbers # lies.
type shape struct {
	words     string
	low, high int64
}

// shapes has each operation, by plain numbers, typed out.
func shapes() map[uint8]shape {
	small := func(words string) shape { return shape{words, -128, 127} }
	far := func(words string) shape { return shape{words, -32768, 32767} }
	none := func(words string) shape { return shape{words, 0, 0} }
	return map[uint8]shape{
		0x00: none("nop"), 0x01: none("hlt"), 0x02: none("iret"), 0x03: none("flush"),
		0x10: none("mov rA rB"), 0x11: none("add rA rB"), 0x12: none("sub rA rB"), 0x13: none("and rA rB"),
		0x14: none("or rA rB"), 0x15: none("xor rA rB"), 0x16: none("shl rA rB"), 0x17: none("shr rA rB"),
		0x18: none("mul rA rB"), 0x19: none("div rA rB"), 0x1a: none("cmp rA rB"), 0x1b: none("ror rA rB"),
		0x1c: none("sar rA rB"), 0x1d: none("mulh rA rB"), 0x1e: none("rem rA rB"), 0x1f: none("tst rA rB"),
		0x20: {"ldi rA #", math.MinInt32, math.MaxInt32}, 0x21: small("addi rA #"),
		0x30: small("ld rA rB #"), 0x31: small("st rA rB #"), 0x32: small("ldb rA rB #"), 0x33: small("stb rA rB #"),
		0x34: small("ldh rA rB #"), 0x35: small("sth rA rB #"), 0x36: small("ldsb rA rB #"), 0x37: small("ldsh rA rB #"),
		0x38: none("push rA"), 0x39: none("pop rA"), 0x3a: none("xchg rA rB"),
		0x40: far("jmp #"), 0x41: far("beq #"), 0x42: far("bne #"), 0x43: far("blt #"),
		0x44: far("bge #"), 0x45: far("blo #"), 0x46: far("bhs #"), 0x47: far("bvs #"),
		0x48: far("call #"), 0x49: none("jr rA"), 0x4a: none("callr rA"),
		0x50: {"trap #", 0, 255},
		0x60: none("rdps rA"), 0x61: none("wrps rA"), 0x62: none("rdcr rA cB"), 0x63: none("wrcr rA cB"),
		0x64: none("in rA pB"), 0x65: none("out rA pB"),
		0x70: {"tally #", 0, 255}, 0x71: {"leave #", 0, 65535},
	}
}

func (s shape) has(field string) bool { return strings.Contains(s.words, field) }

func (s shape) name() string { return strings.Fields(s.words)[0] }

func (s shape) may(i api.Ins) bool {
	fits := func(field string, r uint8) bool { return r == 0 || s.has(field) && r <= 7 }
	return fits("A", i.A) && fits("B", i.B) && s.low <= int64(i.Imm) && int64(i.Imm) <= s.high
}

func (s shape) fill(a, b, number string) string {
	return strings.NewReplacer("A", a, "B", b, "#", number).Replace(s.words)
}

// wantShow is the reference of Show.
func wantShow(all map[uint8]shape, i api.Ins) string {
	s, ok := all[i.Op]
	if !ok || !s.may(i) {
		return ""
	}
	return s.fill(strconv.Itoa(int(i.A)), strconv.Itoa(int(i.B)), strconv.Itoa(int(i.Imm)))
}

// pattern is an operation's texts as a regular expression, any word in the
// place of Imm, with the bounds of its number.
type pattern struct {
	op        uint8
	texts     *regexp.Regexp
	low, high *big.Int
}

// patterns are all operations' patterns, by their names.
func patterns() map[string]pattern {
	all := map[string]pattern{}
	for op, s := range shapes() {
		texts := s.fill("(?P<a>[0-7])", "(?P<b>[0-7])", "(?P<n>[^ ]+)")
		all[s.name()] = pattern{op, regexp.MustCompile("^" + texts + "$"), big.NewInt(s.low), big.NewInt(s.high)}
	}
	return all
}

var numberPattern = regexp.MustCompile("^(0|-?[1-9][0-9]*)$")

// wantRead is the reference of Read.
func wantRead(all map[string]pattern, s string) (api.Ins, api.Errno) {
	name, _, _ := strings.Cut(s, " ")
	p, ok := all[name]
	if !ok {
		return api.Ins{}, api.ErrWord
	}
	found := p.texts.FindStringSubmatch(s)
	if found == nil {
		return api.Ins{}, api.ErrWord
	}
	i := api.Ins{Op: p.op}
	for k, field := range p.texts.SubexpNames() {
		switch field {
		case "a":
			i.A = found[k][0] - '0'
		case "b":
			i.B = found[k][0] - '0'
		case "n":
			if !numberPattern.MatchString(found[k]) {
				return api.Ins{}, api.ErrNumber
			}
			n, _ := new(big.Int).SetString(found[k], 10)
			if n.Cmp(p.low) < 0 || n.Cmp(p.high) > 0 {
				return api.Ins{}, api.ErrNumber
			}
			i.Imm = int32(n.Int64())
		}
	}
	return i, api.OK
}

func holdRead(t *testing.T, all map[string]pattern, s string) {
	t.Helper()
	i, e := text.Read(s)
	if want, wantE := wantRead(all, s); i != want || e != wantE {
		t.Errorf("Read(%q) = %+v, %d, want %+v, %d", s, i, int(e), want, int(wantE))
	}
}

// numbers are the ends of every form's range, one beyond each, and some
// between.
var numbers = []int32{
	0, 1, -1, 9, 10, -10, 100, 126, 127, 128, -127, -128, -129, 255, 256, -255, -256,
	32767, 32768, -32768, -32769, 65535, 65536, -65535, -65536, 1000000000, -1000000000,
	math.MaxInt32 - 1, math.MaxInt32, math.MinInt32, math.MinInt32 + 1,
}

// registers are all that may be, and some that may not: 8 and 16 are 0 in
// three and in four bits.
var registers = []uint8{0, 1, 2, 3, 4, 5, 6, 7, 8, 9, 10, 16, 23, 128, 255}

// everyIns hands out every operation, there or not, with all those fields.
func everyIns(yield func(i api.Ins) bool) {
	for op := range 256 {
		for _, a := range registers {
			for _, b := range registers {
				for _, imm := range numbers {
					if !yield(api.Ins{Op: uint8(op), A: a, B: b, Imm: imm}) {
						return
					}
				}
			}
		}
	}
}

// someTexts are texts of each operation, in the operations' order: with other
// registers, and with the ends of its range.
func someTexts() []string {
	var some []string
	all := shapes()
	for op := range 256 {
		s, ok := all[uint8(op)]
		if !ok {
			continue
		}
		for _, n := range []int64{s.low, s.high, 0, 5} {
			if t := s.fill("3", "6", strconv.FormatInt(n, 10)); !slices.Contains(some, t) {
				some = append(some, t)
			}
		}
	}
	return some
}

// named are an instruction of each operation, by api's names, with each part
// that its form has.
var named = []struct {
	i api.Ins
	s string
}{
	{api.Ins{Op: api.ONop}, "nop"},
	{api.Ins{Op: api.OHlt}, "hlt"},
	{api.Ins{Op: api.OIret}, "iret"},
	{api.Ins{Op: api.OFlush}, "flush"},
	{api.Ins{Op: api.OMov, A: 0, B: 7}, "mov r0 r7"},
	{api.Ins{Op: api.OAdd, A: 1, B: 6}, "add r1 r6"},
	{api.Ins{Op: api.OSub, A: 2, B: 5}, "sub r2 r5"},
	{api.Ins{Op: api.OAnd, A: 3, B: 4}, "and r3 r4"},
	{api.Ins{Op: api.OOr, A: 4, B: 3}, "or r4 r3"},
	{api.Ins{Op: api.OXor, A: 5, B: 2}, "xor r5 r2"},
	{api.Ins{Op: api.OShl, A: 6, B: 1}, "shl r6 r1"},
	{api.Ins{Op: api.OShr, A: 7, B: 0}, "shr r7 r0"},
	{api.Ins{Op: api.OMul, A: 0, B: 0}, "mul r0 r0"},
	{api.Ins{Op: api.ODiv, A: 1, B: 1}, "div r1 r1"},
	{api.Ins{Op: api.OCmp, A: 2, B: 3}, "cmp r2 r3"},
	{api.Ins{Op: api.ORor, A: 3, B: 2}, "ror r3 r2"},
	{api.Ins{Op: api.OSar, A: 4, B: 5}, "sar r4 r5"},
	{api.Ins{Op: api.OMulh, A: 5, B: 4}, "mulh r5 r4"},
	{api.Ins{Op: api.ORem, A: 6, B: 7}, "rem r6 r7"},
	{api.Ins{Op: api.OTst, A: 7, B: 6}, "tst r7 r6"},
	{api.Ins{Op: api.OLdi, A: 1, Imm: math.MaxInt32}, "ldi r1 2147483647"},
	{api.Ins{Op: api.OAddi, A: 2, Imm: -128}, "addi r2 -128"},
	{api.Ins{Op: api.OLd, A: 1, B: 2, Imm: 127}, "ld r1 r2 127"},
	{api.Ins{Op: api.OSt, A: 2, B: 3, Imm: -128}, "st r2 r3 -128"},
	{api.Ins{Op: api.OLdb, A: 3, B: 4, Imm: 0}, "ldb r3 r4 0"},
	{api.Ins{Op: api.OStb, A: 4, B: 5, Imm: 1}, "stb r4 r5 1"},
	{api.Ins{Op: api.OLdh, A: 5, B: 6, Imm: -1}, "ldh r5 r6 -1"},
	{api.Ins{Op: api.OSth, A: 6, B: 7, Imm: 10}, "sth r6 r7 10"},
	{api.Ins{Op: api.OLdsb, A: 7, B: 0, Imm: -10}, "ldsb r7 r0 -10"},
	{api.Ins{Op: api.OLdsh, A: 0, B: 1, Imm: 100}, "ldsh r0 r1 100"},
	{api.Ins{Op: api.OPush, A: 7}, "push r7"},
	{api.Ins{Op: api.OPop, A: 6}, "pop r6"},
	{api.Ins{Op: api.OXchg, A: 5, B: 7}, "xchg r5 r7"},
	{api.Ins{Op: api.OJmp, Imm: -32768}, "jmp -32768"},
	{api.Ins{Op: api.OBeq, Imm: 32767}, "beq 32767"},
	{api.Ins{Op: api.OBne, Imm: 2}, "bne 2"},
	{api.Ins{Op: api.OBlt, Imm: -3}, "blt -3"},
	{api.Ins{Op: api.OBge, Imm: 0}, "bge 0"},
	{api.Ins{Op: api.OBlo, Imm: 4}, "blo 4"},
	{api.Ins{Op: api.OBhs, Imm: -5}, "bhs -5"},
	{api.Ins{Op: api.OBvs, Imm: 6}, "bvs 6"},
	{api.Ins{Op: api.OCall, Imm: -700}, "call -700"},
	{api.Ins{Op: api.OJr, A: 6}, "jr r6"},
	{api.Ins{Op: api.OCallr, A: 3}, "callr r3"},
	{api.Ins{Op: api.OTrap, Imm: 255}, "trap 255"},
	{api.Ins{Op: api.ORdps, A: 4}, "rdps r4"},
	{api.Ins{Op: api.OWrps, A: 5}, "wrps r5"},
	{api.Ins{Op: api.ORdcr, A: 1, B: 5}, "rdcr r1 c5"},
	{api.Ins{Op: api.OWrcr, A: 2, B: 0}, "wrcr r2 c0"},
	{api.Ins{Op: api.OIn, A: 3, B: 7}, "in r3 p7"},
	{api.Ins{Op: api.OOut, A: 7, B: 3}, "out r7 p3"},
	{api.Ins{Op: api.OTally, Imm: 255}, "tally 255"},
	{api.Ins{Op: api.OLeave, Imm: 65535}, "leave 65535"},
}

func TestP4_1EachOperation(t *testing.T) {
	if len(named) != len(shapes()) {
		t.Fatalf("%d operations of %d", len(named), len(shapes()))
	}
	for _, x := range named {
		if got := text.Show(x.i); got != x.s {
			t.Errorf("Show(%+v) = %q, want %q", x.i, got, x.s)
		}
	}
}

func TestP4_1EveryInstruction(t *testing.T) {
	all := shapes()
	for i := range everyIns {
		if got, want := text.Show(i), wantShow(all, i); got != want {
			t.Fatalf("Show(%+v) = %q, want %q", i, got, want)
		}
	}
}

func TestP4_1Bounds(t *testing.T) {
	for _, x := range []struct {
		i api.Ins
		s string
	}{
		{api.Ins{Op: api.OLdi, Imm: math.MinInt32}, "ldi r0 -2147483648"},
		{api.Ins{Op: api.OLdi, Imm: math.MaxInt32}, "ldi r0 2147483647"},
		{api.Ins{Op: api.OAddi, Imm: -128}, "addi r0 -128"},
		{api.Ins{Op: api.OAddi, Imm: -129}, ""},
		{api.Ins{Op: api.OAddi, Imm: 127}, "addi r0 127"},
		{api.Ins{Op: api.OAddi, Imm: 128}, ""},
		{api.Ins{Op: api.OLd, Imm: -128}, "ld r0 r0 -128"},
		{api.Ins{Op: api.OLd, Imm: -129}, ""},
		{api.Ins{Op: api.OLdsh, Imm: 127}, "ldsh r0 r0 127"},
		{api.Ins{Op: api.OLdsh, Imm: 128}, ""},
		{api.Ins{Op: api.OCall, Imm: -32768}, "call -32768"},
		{api.Ins{Op: api.OCall, Imm: -32769}, ""},
		{api.Ins{Op: api.OBvs, Imm: 32767}, "bvs 32767"},
		{api.Ins{Op: api.OBvs, Imm: 32768}, ""},
		{api.Ins{Op: api.OTrap, Imm: 0}, "trap 0"},
		{api.Ins{Op: api.OTrap, Imm: -1}, ""},
		{api.Ins{Op: api.OTrap, Imm: 256}, ""},
		{api.Ins{Op: api.OTally, Imm: 0}, "tally 0"},
		{api.Ins{Op: api.OTally, Imm: 256}, ""},
		{api.Ins{Op: api.OLeave, Imm: 0}, "leave 0"},
		{api.Ins{Op: api.OLeave, Imm: -1}, ""},
		{api.Ins{Op: api.OLeave, Imm: 65536}, ""},
	} {
		if got := text.Show(x.i); got != x.s {
			t.Errorf("Show(%+v) = %q, want %q", x.i, got, x.s)
		}
	}
}

func TestP4_1MayNotBe(t *testing.T) {
	for _, i := range []api.Ins{
		{Op: api.OAdd, A: 8}, {Op: api.OAdd, B: 8}, {Op: api.OAdd, A: 255, B: 255},
		{Op: api.OJr, A: 8}, {Op: api.OLdi, A: 16}, {Op: api.ORdcr, B: 8}, {Op: api.OOut, B: 16},
		{Op: api.ONop, A: 1}, {Op: api.OHlt, B: 1}, {Op: api.OIret, Imm: 1}, {Op: api.OFlush, Imm: -1},
		{Op: api.OPush, B: 1}, {Op: api.OPop, Imm: 1}, {Op: api.OMov, Imm: 1}, {Op: api.OXchg, Imm: -1},
		{Op: api.OIn, Imm: 1}, {Op: api.OAddi, B: 1}, {Op: api.OLdi, B: 7},
		{Op: api.OJmp, A: 1}, {Op: api.OCall, B: 1}, {Op: api.OTrap, A: 1}, {Op: api.OTally, B: 1}, {Op: api.OLeave, A: 1},
		{Op: 0x04}, {Op: 0x0f}, {Op: 0x22}, {Op: 0x2f}, {Op: 0x3b}, {Op: 0x3f}, {Op: 0x4b}, {Op: 0x51}, {Op: 0x66}, {Op: 0x72}, {Op: 0xff},
	} {
		if got := text.Show(i); got != "" {
			t.Errorf("Show(%+v) = %q", i, got)
		}
	}
}

func TestP4_2EachOperation(t *testing.T) {
	for _, x := range named {
		if i, e := text.Read(x.s); i != x.i || e != api.OK {
			t.Errorf("Read(%q) = %+v, %d, want %+v", x.s, i, int(e), x.i)
		}
	}
}

// holdRefused asks that each text is refused with one error, and that nothing
// is answered beside it.
func holdRefused(t *testing.T, want api.Errno, texts ...string) {
	t.Helper()
	for _, s := range texts {
		i, e := text.Read(s)
		if e != want {
			t.Errorf("Read(%.40q) = %d, want %d", s, int(e), int(want))
		}
		if i != (api.Ins{}) {
			t.Errorf("Read(%.40q) = %+v beside an error", s, i)
		}
	}
}

func TestP4_2Words(t *testing.T) {
	holdRefused(t, api.ErrWord,
		"", " ", "  ", "\x00", "\t", "r0", "1", "-",
		"add", "add r1", "add r1 r2 r3", "add r1 r2 3", "ld r1 r2", "ld r1 2", "ld r1 r2 3 4", "ldi r1", "ldi 1",
		"nop nop", "nop r0", "nop 0", "jmp", "jmp 1 2", "jmp r1 2", "push", "push r1 r2", "trap", "trap 1 1",
		"nop ", " nop", "add r1  r2", "add  r1 r2", " add r1 r2", "add r1 r2 ", "addi r1 ", "addi r1  1", "addi r1 1 ", "addi  1", "beq ", "beq  1", " beq 1", "beq 1 ",
		"sum r1 r2", "ad r1 r2", "addd r1 r2", "o r1 r2", "oadd r1 r2", "Oadd r1 r2", "ldi: r1 1", "nop\n", "nop\x00", "\tnop", "no", "nopnop", "nop,hlt",
		"ADD r1 r2", "Add r1 r2", "adD r1 r2", "NOP", "add R1 r2", "add r1 R2", "rdcr r1 C1", "in r1 P1",
	)
}

func TestP4_2WrongCount(t *testing.T) {
	for _, s := range someTexts() {
		words := strings.Split(s, " ")
		if len(words) > 1 {
			holdRefused(t, api.ErrWord, strings.Join(words[:len(words)-1], " "), strings.Join(words[1:], " "))
		}
		holdRefused(t, api.ErrWord, s+" r0", s+" 0", s+" "+s, s+" ", " "+s, strings.Replace(s+" ", " ", "  ", 1))
	}
}

// Every word of one and of two bytes, and some longer ones, where a register's
// word is meant to stand: only eight of them are ones.
func TestP4_2Registers(t *testing.T) {
	var words []string
	for first := range 256 {
		words = append(words, string([]byte{byte(first)}))
		for second := range 256 {
			words = append(words, string([]byte{byte(first), byte(second)}))
		}
	}
	words = append(words, "r00", "r01", "r10", "r-1", "r+1", "r 1", "r1x", "rr1", "xr1", "cr1", "r1,", "r1\x00", "\x00r1", "register")
	all := patterns()
	for _, word := range words {
		for _, s := range []string{"jr ", "mov r1 ", "rdcr r1 ", "wrcr r1 ", "in r1 ", "out r1 "} {
			holdRead(t, all, s+word)
		}
		holdRead(t, all, "ld "+word+" r2 5")
		holdRead(t, all, "ld r2 "+word+" 5")
	}
}

func TestP4_2RegistersOfWrongLetter(t *testing.T) {
	holdRefused(t, api.ErrWord,
		"add c1 r2", "add r1 c2", "add r1 p2", "add 1 r2", "add r1 2", "mov p1 r2", "xchg r1 c2", "ld r1 c2 3", "ld c1 r2 3", "push c1", "jr p1", "ldi c1 1",
		"rdcr r1 r2", "rdcr r1 p2", "rdcr c1 c2", "rdcr c1 r2", "wrcr r1 r2", "wrcr r1 p2", "rdcr r1 2",
		"in r1 r2", "in r1 c2", "in p1 p2", "in p1 r2", "out r1 r2", "out r1 c2", "out r1 2",
		"add r8 r1", "add r1 r8", "add r9 r1", "rdcr r0 c8", "in r0 p8", "out r0 p9", "addi r8 1", "jr r8", "add r/ r1", "add r: r1", "add r r1", "add r1 r", "jr r-1",
	)
}

func TestP4_2Numbers(t *testing.T) {
	holdRefused(t, api.ErrNumber,
		"addi r1 01", "addi r1 00", "addi r1 -01", "addi r1 -00", "addi r1 000127", "ldi r1 02147483647", "beq 012", "trap 00", "leave 065535",
		"addi r1 -0", "ldi r1 -0", "beq -0", "trap -0", "leave -0",
		"addi r1 x", "addi r1 r1", "jmp r1", "addi r1 0x1", "addi r1 1x", "addi r1 x1", "addi r1 1_0", "addi r1 1.0", "addi r1 1e1", "beq 1\n", "beq \t1", "beq \x00", "beq 1\x00", "ldi r1 /", "ldi r1 :", "ldi r1 \xff", "ldi r1 ١",
		"addi r1 -", "addi r1 --", "addi r1 --1", "addi r1 1-", "addi r1 -1-", "addi r1 -x", "beq -",
		"addi r1 +", "addi r1 +1", "addi r1 +0", "addi r1 -+1", "addi r1 +-1", "ldi r1 +2147483647",
	)
}

func TestP4_2NumbersBeyond(t *testing.T) {
	holdRefused(t, api.ErrNumber,
		"addi r1 128", "addi r1 -129", "addi r1 255", "ld r1 r2 128", "st r1 r2 -129", "ldsh r1 r2 256",
		"jmp 32768", "jmp -32769", "bvs 65535", "call 32768", "call -32769",
		"trap 256", "trap -1", "tally 256", "tally -1", "leave 65536", "leave -1",
		"ldi r1 2147483648", "ldi r1 -2147483649", "ldi r1 4294967295", "ldi r1 -4294967295", "ldi r1 21474836470", "ldi r1 2147483650",
		"ldi r1 4294967296", "ldi r1 4294967301", "ldi r1 -4294967296", "addi r1 4294967296", "addi r1 4294967297", "addi r1 -4294967297", "jmp 4294967296", "leave 4294967296", "trap 4294967297",
		"ldi r1 9223372036854775807", "ldi r1 9223372036854775808", "ldi r1 -9223372036854775808", "ldi r1 -9223372036854775809",
		"ldi r1 18446744073709551615", "ldi r1 18446744073709551616", "ldi r1 18446744073709551617", "ldi r1 -18446744073709551617", "addi r1 18446744073709551621", "trap 18446744073709551617",
		"ldi r1 340282366920938463463374607431768211457", "addi r1 1"+strings.Repeat("0", 100),
	)
}

// The ends of all ranges and what is near them, whole turns of 32 bits away
// too, of each operation with a number.
func TestP4_2NumbersWithin(t *testing.T) {
	all := patterns()
	for _, s := range shapes() {
		if !s.has("#") {
			continue
		}
		for n := -70000; n <= 70000; n += 61 {
			holdRead(t, all, s.fill("3", "6", strconv.Itoa(n)))
		}
		for _, n := range numbers {
			for _, k := range []int64{-1, 0, 1, 1 << 32, -1 << 32} {
				holdRead(t, all, s.fill("3", "6", strconv.FormatInt(int64(n)+k, 10)))
			}
		}
	}
}

// Every word of up to five of some bytes in the place of a number.
func TestP4_2NumbersOfFewBytes(t *testing.T) {
	all := patterns()
	words := []string{""}
	for k := 0; k < len(words); k++ {
		for _, s := range []string{"addi r1 ", "ldi r1 ", "leave "} {
			holdRead(t, all, s+words[k])
		}
		if len(words[k]) < 5 {
			for _, c := range "-+0127 x" {
				words = append(words, words[k]+string(c))
			}
		}
	}
}

// A word that is none comes ahead of a number that is none.
func TestP4_2WordAheadOfNumber(t *testing.T) {
	holdRefused(t, api.ErrWord,
		"ldi r8 x", "addi r8 128", "addi c1 -0", "ld r1 c2 128", "ld r8 r2 x", "ld r1 r8 01", "sum r1 128", "ADDI r1 128",
		"addi r1 128 ", " addi r1 128", "addi  r1 128", "addi r1  128", "addi r1 128 1", "addi 128", "beq 32768 1", "beq 99999 ", "trap x y",
		"ld r1 r2 x y", "ld r1 128", "ldi x", "jmp  x", "ldi r1 99999999999 0", "nop x", "add r1 128",
	)
}

func TestP4_2LongTexts(t *testing.T) {
	const many = 1 << 20
	holdRefused(t, api.ErrWord,
		strings.Repeat(" ", many), strings.Repeat("a", many), "nop"+strings.Repeat(" ", many), strings.Repeat(" ", many)+"nop",
		strings.Repeat("nop ", many)+"nop", "ld r1 r2 3"+strings.Repeat(" 4", many), "jr r"+strings.Repeat("1", many))
	holdRefused(t, api.ErrNumber,
		"ldi r1 "+strings.Repeat("9", many), "ldi r1 -"+strings.Repeat("9", many), "ldi r1 "+strings.Repeat("0", many),
		"ldi r1 1"+strings.Repeat("0", many), "ldi r1 "+strings.Repeat("-", many), "ldi r1 "+strings.Repeat("x", many))
}

func TestP4_3ShownIsRead(t *testing.T) {
	shown := 0
	for i := range everyIns {
		s := text.Show(i)
		if s == "" {
			continue
		}
		shown++
		if j, e := text.Read(s); j != i || e != api.OK {
			t.Fatalf("%+v is shown as %q, which is read as %+v, %d", i, s, j, int(e))
		}
	}
	if shown < 1000 {
		t.Errorf("only %d are shown", shown)
	}
}

// near hands out a text, and all that are one byte away from it: one less, one
// more, or one that is another.
func near(s string) func(yield func(s string) bool) {
	return func(yield func(s string) bool) {
		for k := range len(s) + 1 {
			if k < len(s) && !yield(s[:k]+s[k+1:]) {
				return
			}
			for c := range 256 {
				middle := string([]byte{byte(c)})
				if !yield(s[:k]+middle+s[k:]) || k < len(s) && !yield(s[:k]+middle+s[k+1:]) {
					return
				}
			}
		}
	}
}

func TestP4_3ReadIsShown(t *testing.T) {
	all := patterns()
	for _, s := range someTexts() {
		if _, e := text.Read(s); e != api.OK {
			t.Errorf("Read(%q) = %d", s, int(e))
		}
		for other := range near(s) {
			holdRead(t, all, other)
			if i, e := text.Read(other); e == api.OK && text.Show(i) != other {
				t.Fatalf("%q is read as %+v, which is shown as %q", other, i, text.Show(i))
			}
		}
	}
}

// The chapter's table of examples, row by row.
func TestExamples(t *testing.T) {
	for _, x := range []struct {
		s string
		i api.Ins
	}{
		{"add r1 r2", api.Ins{Op: api.OAdd, A: 1, B: 2}},
		{"ld r3 r4 -4", api.Ins{Op: api.OLd, A: 3, B: 4, Imm: -4}},
		{"rdcr r0 c7", api.Ins{Op: api.ORdcr, A: 0, B: 7}},
		{"beq 12", api.Ins{Op: api.OBeq, Imm: 12}},
	} {
		if got := text.Show(x.i); got != x.s {
			t.Errorf("Show(%+v) = %q, want %q", x.i, got, x.s)
		}
		if i, e := text.Read(x.s); i != x.i || e != api.OK {
			t.Errorf("Read(%q) = %+v, %d", x.s, i, int(e))
		}
	}
	holdRefused(t, api.ErrWord, "add r1", "add r1  r2", "add r1 c2", "sum r1 r2")
	holdRefused(t, api.ErrNumber, "addi r1 128", "addi r1 01", "addi r1 -0")
}
