package trig_test

import (
	"math/big"
	"testing"

	"radome/trig"
	"radome/turn"
)

func TestTG1BothEdges(t *testing.T) {
	const root = 759250125 // the root of a half, with 30 bits behind the point
	cases := []struct {
		of           turn.Turn
		sine, cosine int64
	}{
		{0, 0, one}, {quarter, one, 0}, {half, 0, -one}, {3 * quarter, -one, 0},
		{1, 2, one}, {quarter + 1, one, -2}, {half + 1, -2, -one}, {3*quarter + 1, -one, 2}, // one part is a sine of 1.57 last bits
		{quarter - 1, one, 2}, {half - 1, 2, -one}, {3*quarter - 1, -one, -2}, {last, -2, one},
		{quarter / 2, root, root}, {quarter + quarter/2, root, -root}, {half + quarter/2, -root, -root}, {3*quarter + quarter/2, -root, root},
	}
	for _, c := range cases {
		wantBoth(t, c.of, c.sine, c.cosine)
	}
}

func TestTG1BothStepByStep(t *testing.T) {
	eachDirection(20000, func(a turn.Turn) {
		sine, cosine := steppedBoth(a)
		wantBoth(t, a, sine, cosine)
	})
}

// A sine of just a half is the even one of both, and its other way too.
func TestTG1BothOfAHalfIsEven(t *testing.T) {
	wantBoth(t, 176247672, 273791916, 1038248280)
	wantBoth(t, quarter+176247672, 1038248280, -273791916)
	wantBoth(t, half+176247672, -273791916, -1038248280)
	wantBoth(t, 3*quarter+176247672, -1038248280, 273791916)
}

// Where nothing of the rest is left, the pair is turned anticlockwise.
func TestTG1BothWithoutARest(t *testing.T) {
	wantBoth(t, 151438034, 235937209, 1047499469)
	wantBoth(t, 439615733, 643919228, 859237763)
	wantBoth(t, half+634126091, -859237763, -643919227)
}

// farther tells whether a sine is more than four last bits off the exact one.
func farther(got int64, exact *big.Int) bool {
	off := new(big.Int).Mul(big.NewInt(got), power(exactBits-30))
	off.Sub(off, exact)
	return off.CmpAbs(power(exactBits-28)) > 0
}

func TestTG4SinesAreNear(t *testing.T) {
	eachDirection(5000, func(a turn.Turn) {
		sine, cosine := exactBoth(a)
		if s, c := trig.Both(a); farther(s, sine) || farther(c, cosine) {
			t.Errorf("Both(%d): %d, %d are too far off", a, s, c)
		}
	})
}
