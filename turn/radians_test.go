package turn_test

import (
	"math"
	"math/big"
	"testing"

	"radome/turn"
)

func TestTU3RadiansEdges(t *testing.T) {
	const pi = 3622009729038561421 // with 60 bits behind the point
	cases := []struct {
		a    turn.Turn
		bits int
		want int64
	}{
		{0, 0, 0}, {0, 30, 0}, {0, 59, 0}, {0, 60, 0},
		{half, 0, 3}, {half, 1, 6}, {half, 20, 3294199}, {half, 30, 3373259426}, {half, 60, pi},
		{last, 0, 6}, {last, 1, 13}, {last, 60, 7244019456390493129}, // above 2^62 - 1: radians are rounded, not bounded
		{1, 0, 0}, {1, 28, 0}, {1, 29, 1}, {1, 60, 1686629713}, {quarter, 0, 2}, {3 * quarter, 0, 5}, {quarter, 20, 1647099},
		{last - 1, 60, 7244019454703863416}, {half + 1, 60, pi + 1686629713}, {half - 1, 60, pi - 1686629713},
	}
	for _, c := range cases {
		wantRadians(t, c.a, c.bits, c.want)
	}
}

// Half a part is left just where the number, which is odd, is halved once.
func TestTU3RadiansOfHalvesAreEven(t *testing.T) {
	wantRadians(t, quarter, 60, 1811004864519280710)   // and a half: an even one below
	wantRadians(t, half, 59, 1811004864519280710)      // so, too
	wantRadians(t, 3*quarter, 60, 5433014593557842132) // less a half: an odd one below
}

func TestTU3RadiansIsTheNearest(t *testing.T) {
	check := func(a turn.Turn, bits int) {
		exact := exactRadians(a, bits)
		wantRadians(t, a, bits, nearest(exact))
		got, _ := turn.Radians(a, bits)
		off := new(big.Rat).Sub(new(big.Rat).SetInt64(got), exact)
		if off.Abs(off).Cmp(big.NewRat(1, 2)) > 0 {
			t.Errorf("Radians(%d, %d): %d is %s off", a, bits, got, off)
		}
	}
	singles(500, func(a turn.Turn) {
		for bits := range 61 {
			check(a, bits)
		}
	})
}

// The number is the half turn: a turn's radians are those that others reckon, as near as floats can tell.
func TestTU3RadiansAreRadians(t *testing.T) {
	singles(2000, func(a turn.Turn) {
		got, err := turn.Radians(a, 50)
		want := float64(a) / float64(whole) * 2 * math.Pi
		if is := float64(got) / (1 << 50); err != nil || math.Abs(is-want) > 1e-14*8 {
			t.Errorf("Radians(%d, 50): %v, %v; want %v", a, is, err, want)
		}
	})
}

func TestTU3RadiansWrongBits(t *testing.T) {
	for _, bits := range wrongBits {
		for _, a := range edges() {
			wantArg(t, a, bits)
		}
	}
}
