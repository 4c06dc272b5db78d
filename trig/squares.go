package trig

import (
	"math/bits"

	"radome/api"
)

// square is a number of two words, the square of one or the sum of such.
type square struct{ high, low uint64 }

// squareOf is a number by itself.
func squareOf(a uint64) square {
	high, low := bits.Mul64(a, a)
	return square{high, low}
}

// squares are those of two sizes together: below 2^125, so no carry is lost.
func squares(x, y uint64) square {
	a, b := squareOf(x), squareOf(y)
	low, carry := bits.Add64(a.low, b.low, 0)
	high, _ := bits.Add64(a.high, b.high, carry)
	return square{high, low}
}

// above tells whether it is more than another one.
func (s square) above(other square) bool {
	return s.high > other.high || s.high == other.high && s.low > other.low
}

// root is the greatest number whose square is not above it. It is found bit by bit; MaxTop's are all ones, so it is bounded of itself.
func (s square) root() uint64 {
	root := uint64(0)
	for bit := uint64(api.MaxTop/2 + 1); bit > 0; bit /= 2 {
		if !squareOf(root | bit).above(s) {
			root |= bit
		}
	}
	return root
}
