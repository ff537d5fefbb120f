// Package flags is layer 1: what instructions do to numbers of 32 bits, and
// which flags they leave. See shared/doc/01-flags.md.
package flags

import "mummer/api"

// Add is the sum, and its flags.
func Add(a, b uint32) (uint32, uint32) {
	sum := a + b
	return flagged(sum,
		condition{api.FC, sum < a},
		condition{api.FV, signed(a)+signed(b) != signed(sum)})
}

// Sub is a less b, and its flags.
func Sub(a, b uint32) (uint32, uint32) {
	rest := a - b
	return flagged(rest,
		condition{api.FC, a < b},
		condition{api.FV, signed(a)-signed(b) != signed(rest)})
}

// And is both, bit by bit.
func And(a, b uint32) (uint32, uint32) { return flagged(a & b) }

// Or is one or both, bit by bit.
func Or(a, b uint32) (uint32, uint32) { return flagged(a | b) }

// Xor is one alone, bit by bit.
func Xor(a, b uint32) (uint32, uint32) { return flagged(a ^ b) }

// Shl moves bits up.
func Shl(a, n uint32) (uint32, uint32) { return shift(a, n, places(a).up) }

// Shr moves bits down.
func Shr(a, n uint32) (uint32, uint32) { return shift(a, n, places(a).down) }

// Ror turns bits round, down.
func Ror(a, n uint32) (uint32, uint32) { return shift(a, n, places(a).round) }

// Sar moves bits down, with the sign.
func Sar(a, n uint32) (uint32, uint32) { return shift(a, n, places(a).downSigned) }

// Mul is the product, and its flags.
func Mul(a, b uint32) (uint32, uint32) {
	low, high := product(a, b)
	return flagged(low, condition{api.FC, high != 0})
}

// Mulh is the upper half of the product.
func Mulh(a, b uint32) (uint32, uint32) {
	_, high := product(a, b)
	return flagged(high)
}

// Div is the quotient; false: there is none.
func Div(a, b uint32) (uint32, uint32, bool) {
	if b == 0 {
		return 0, 0, false
	}
	quotient, flags := flagged(a / b)
	return quotient, flags, true
}

// Rem is the rest; false: there is none.
func Rem(a, b uint32) (uint32, uint32, bool) {
	if b == 0 {
		return 0, 0, false
	}
	rest, flags := flagged(a % b)
	return rest, flags, true
}

// Holds asks a condition of a status.
func Holds(c int, ps uint32) bool {
	zero, negative := ps&api.FZ != 0, ps&api.FN != 0
	carry, overflow := ps&api.FC != 0, ps&api.FV != 0
	switch c {
	case 0:
		return true
	case 1:
		return zero
	case 2:
		return !zero
	case 3:
		return negative != overflow
	case 4:
		return negative == overflow
	case 5:
		return carry
	case 6:
		return !carry
	case 7:
		return overflow
	}
	return false
}

// condition is a flag, and whether a result has it.
type condition struct {
	flag  uint32
	holds bool
}

// together is the flags of those conditions that hold.
func together(conditions ...condition) uint32 {
	flags := uint32(0)
	for _, c := range conditions {
		if c.holds {
			flags |= c.flag
		}
	}
	return flags
}

// flagged is a result beside its flags: the two that every result has, and
// those of the conditions that its own operation knows.
func flagged(result uint32, own ...condition) (uint32, uint32) {
	every := together(
		condition{api.FZ, result == 0},
		condition{api.FN, result >= 1<<31})
	return result, every | together(own...)
}

// signed has 64 bits, so that sums of two of them lose nothing.
func signed(a uint32) int64 { return int64(int32(a)) }

// product is the lower and the upper half of a times b.
func product(a, b uint32) (low, high uint32) {
	whole := uint64(a) * uint64(b)
	return uint32(whole), uint32(whole >> 32)
}

// places is a number as a row of 32 bits that can be moved. Its methods take
// 1 to 31, and answer the moved bits and the bit that went out last; each of
// them is the turn round, with the bits that came in from the other end
// replaced.
type places uint32

func (p places) round(n uint32) (moved, out uint32) {
	moved = uint32(p>>n | p<<(32-n))
	return moved, moved >> 31
}

func (p places) down(n uint32) (moved, out uint32) {
	moved, out = p.round(n)
	return moved & (1<<(32-n) - 1), out
}

// up by n is round by what is left of 32; the last bit to go out at the upper
// end has come in at the lower one.
func (p places) up(n uint32) (moved, out uint32) {
	moved, _ = p.round(32 - n)
	return moved &^ (1<<n - 1), moved & 1
}

// downSigned turns a negative number's bits over on the way, since down lets
// noughts come in.
func (p places) downSigned(n uint32) (moved, out uint32) {
	if p < 1<<31 {
		return p.down(n)
	}
	moved, out = (^p).down(n)
	return ^moved, 1 - out
}

// shift keeps a count of 0 away from move: no bit goes out then.
func shift(a, n uint32, move func(n uint32) (moved, out uint32)) (uint32, uint32) {
	n %= 32
	if n == 0 {
		return flagged(a)
	}
	moved, out := move(n)
	return flagged(moved, condition{api.FC, out == 1})
}
