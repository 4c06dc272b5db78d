package turn

import "math/bits"

const (
	halfTurn     = 3622009729038561421 // in radians, with halfTurnBits bits behind the point
	halfTurnBits = 60
	wordBits     = 64
)

// exact is a number that is not yet rounded: a whole one, and what is behind it, in parts of 2^64.
type exact struct{ whole, behind uint64 }

// radiansOf is a direction in radians, with halfTurnBits bits behind the point of its whole number.
func radiansOf(t Turn) exact {
	// 2^31 parts are half a turn. Together both numbers are moved up by 33 bits, so that what is to be divided by 2^31 is divided by 2^64: words part there.
	whole, behind := bits.Mul64(uint64(t)<<32, halfTurn<<1)
	return exact{whole, behind}
}

// lowered is the number by 2 to the power of places (0 to 63), rounded: of two as near the even one.
func (e exact) lowered(places int) uint64 {
	const half = 1 << (wordBits - 1)
	left := e.whole >> places
	rest := e.whole<<(wordBits-places) | e.behind>>places
	last := e.behind << (wordBits - places)
	if rest > half || rest == half && (last != 0 || left%2 == 1) {
		left++
	}
	return left
}
