package chance

import (
	"math/bits"
	"slices"

	"radome/api"
)

// mayBeMany tells whether there may be so many chances.
func mayBeMany(n int) bool { return n >= 1 && n <= api.MaxModels }

// mayBeFloor tells whether a floor may be.
func mayBeFloor(floor int64) bool { return floor >= 0 && floor <= maxFloor }

// allWithin tells whether all numbers are from least to greatest.
func allWithin(least, greatest int64, numbers []int64) bool {
	for _, n := range numbers {
		if n < least || n > greatest {
			return false
		}
	}
	return true
}

// areChances tells whether numbers are chances, none below a floor that may be.
func areChances(l []int64, floor int64) bool {
	// None is above one, so that their sum can't wrap round.
	if !mayBeMany(len(l)) || !allWithin(floor, one, l) {
		return false
	}
	sum := int64(0)
	for _, n := range l {
		sum += n
	}
	return sum == one
}

// shares parts a whole by weights that are not below 0, and not all 0: at most MaxModels, none above MaxTop.
func shares(whole int64, weights []int64) []int64 {
	all := uint64(0)
	for _, n := range weights {
		all += uint64(n) // below 2^64, if all are MaxTop too
	}
	out, cut := make([]int64, len(weights)), make([]uint64, len(weights))
	left := whole
	for i, n := range weights {
		high, low := bits.Mul64(uint64(whole), uint64(n))
		part, rest := bits.Div64(high, low, all) // no part is above the whole, so it has room
		out[i], cut[i] = int64(part), rest
		left -= out[i]
	}
	for range left {
		i := slices.Index(cut, slices.Max(cut))
		out[i]++
		cut[i] = 0 // there is always another one: fewer are left over than had something cut off
	}
	return out
}
