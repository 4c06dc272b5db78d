package qnum

import (
	"math/bits"

	"radome/api"
)

const wordBits = 64

// sum is a whole number that is not yet rounded nor bounded: its words, the lowest first, in two's complement. Three of them have room for 64 products of any two numbers.
type sum [3]uint64

// of is a number as a sum.
func of(n int64) sum {
	sign := signOf(uint64(n))
	return sum{uint64(n), sign, sign}
}

// signOf is the word that stands above a highest one: all ones if that is below 0.
func signOf(word uint64) uint64 { return uint64(int64(word) >> (wordBits - 1)) }

// size is how far a number is from 0.
func size(n int64) uint64 {
	if n < 0 {
		return -uint64(n)
	}
	return uint64(n)
}

// product is a times b.
func product(a, b int64) sum {
	high, low := bits.Mul64(uint64(a), uint64(b))
	// A number below 0, taken for a word, is 2^64 too great: the other number is too often in the higher word.
	if a < 0 {
		high -= uint64(b)
	}
	if b < 0 {
		high -= uint64(a)
	}
	return sum{low, high, signOf(high)}
}

// plus is the sum with a times b added.
func (s sum) plus(a, b int64) sum {
	carry := uint64(0)
	for i, word := range product(a, b) {
		s[i], carry = bits.Add64(s[i], word, carry)
	}
	return s
}

// lowered is the sum by 2 to the power of places (0 to 62), rounded.
func (s sum) lowered(places int) sum {
	one := uint64(1) << places
	rest := s[0] & (one - 1)
	whole := sum{
		s[0]>>places | s[1]<<(wordBits-places),
		s[1]>>places | s[2]<<(wordBits-places),
		s[2]>>places | signOf(s[2])<<(wordBits-places),
	}
	return whole.rounded(rest, one-rest)
}

// quotient is a times b, by c, rounded; c is not 0.
func quotient(a, b, c uint64) sum {
	high, low := bits.Mul64(a, b)
	first, left := high/c, high%c // long division: Div64 has room for one word of the quotient only
	second, rest := bits.Div64(left, low, c)
	return sum{second, first}.rounded(rest, c-rest)
}

// rounded is the sum or the next one above it, by how far off the exact number is from each; of two as near the even one.
func (s sum) rounded(below, above uint64) sum {
	if below < above || below == above && s[0]%2 == 0 {
		return s
	}
	return s.plus(1, 1)
}

// bounded is the sum as a number, no greater than may be; whether it was too great.
func (s sum) bounded() (int64, bool) {
	n := int64(s[0])
	if s == of(n) {
		return Clamp(n)
	}
	if signOf(s[2]) != 0 {
		return -api.MaxTop, true
	}
	return api.MaxTop, true
}

// rootOf is the root of a sum from 0 on, cut down and bounded: no bit above MaxTop's highest is tried.
func rootOf(s sum) int64 {
	root := int64(0)
	for bit := int64(api.MaxTop/2 + 1); bit > 0; bit /= 2 {
		if next := root + bit; !product(next, next).above(s) {
			root = next
		}
	}
	return root
}

// above tells whether the sum is greater than another one; both are from 0 on.
func (s sum) above(other sum) bool {
	for i := len(s) - 1; i >= 0; i-- {
		if s[i] != other[i] {
			return s[i] > other[i]
		}
	}
	return false
}
