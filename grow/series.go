package grow

import (
	"math/bits"

	"radome/qnum"
)

const (
	innerBits = 50 // behind the point, of all that the sums are made of
	one       = 1 << innerBits
	logOfTwo  = 780414346020670

	lastPower = 20 // of the terms of a power, from 0 on
	logTerms  = 20
)

// powerOfLess is e to the power of -r, for r from 0 to the logarithm of two. The terms bear their signs: they are rounded and cut alike on both sides of 0.
func powerOfLess(r int64) int64 {
	sum, term := int64(one), int64(one)
	for n := int64(1); n <= lastPower; n++ {
		term = product(term, -r, innerBits) / n
		sum += term
	}
	return sum
}

// logFromOne is the logarithm of a number from one on, below two. With s as a third of one at most, the odd powers of s are soon too small to be told.
func logFromOne(m int64) int64 {
	s, _, _ := qnum.Div(m-one, m+one, innerBits)
	square := product(s, s, innerBits)
	sum, power := int64(0), s
	for n := range int64(logTerms) {
		sum += power / (2*n + 1)
		power = product(power, square, innerBits)
	}
	return 2 * sum
}

// fromOneToTwo is a number above 0, moved so that it is from one on, below two, and by how many bits down; below 0, if it was moved up.
func fromOneToTwo(x int64) (int64, int) {
	down := bits.Len64(uint64(x)) - innerBits - 1
	if down < 0 {
		return x << -down, down
	}
	return x >> down, down
}

// product is that of two numbers, with so many bits behind the point, rounded.
func product(a, b int64, bits int) int64 {
	near, _, _ := qnum.Mul(a, b, bits)
	return near
}

// moved is a number with other bits behind its point, rounded.
func moved(a int64, from, to int) int64 {
	near, _, _ := qnum.Move(a, from, to)
	return near
}
