package trig_test

import (
	"math/big"
	"math/rand"
	"testing"

	"radome/api"
	"radome/trig"
	"radome/turn"
)

func TestTG2AngleOnTheAxes(t *testing.T) {
	for _, n := range sizes() {
		if n == 0 {
			continue
		}
		wantAngle(t, 0, n, 0)
		wantAngle(t, n, 0, quarter)
		wantAngle(t, 0, -n, half)
		wantAngle(t, -n, 0, 3*quarter)
	}
}

func TestTG2AngleOnTheDiagonals(t *testing.T) {
	for _, n := range sizes() {
		if n == 0 {
			continue
		}
		wantAngle(t, n, n, quarter/2)
		wantAngle(t, n, -n, half-quarter/2)
		wantAngle(t, -n, -n, half+quarter/2)
		wantAngle(t, -n, n, last-quarter/2+1)
	}
}

// The greatest and the least angle of each quarter are those of the axes, and none is beyond them.
func TestTG2AngleNextToTheAxes(t *testing.T) {
	cases := []struct {
		x, y int64
		want turn.Turn
	}{
		{1, top, 0}, {-1, top, 0}, {1, -top, half}, {-1, -top, half}, // a whole turn is 0
		{top, 1, quarter}, {top, -1, quarter}, {-top, -1, 3 * quarter}, {-top, 1, 3 * quarter},
		{3, 1 << 32, 0}, {-3, 1 << 32, 0}, {3, -1 << 32, half}, {-3, -1 << 32, half}, // 3 by 6.28 of a part
		{4, 1 << 32, 1}, {-4, 1 << 32, last}, {4, -1 << 32, half - 1}, {-4, -1 << 32, half + 1},
		{1 << 32, 3, quarter}, {-1 << 32, 3, 3 * quarter}, {1 << 32, -3, quarter}, {-1 << 32, -3, 3 * quarter},
		{1 << 32, 4, quarter - 1}, {-1 << 32, 4, 3*quarter + 1}, {1 << 32, -4, quarter + 1}, {-1 << 32, -4, 3*quarter - 1},
	}
	for _, c := range cases {
		wantAngle(t, c.x, c.y, c.want)
	}
}

func TestTG2AngleStepByStep(t *testing.T) {
	eachPlace(5000, func(x, y int64) {
		if x != 0 || y != 0 {
			wantAngle(t, x, y, steppedAngle(x, y))
		}
	})
}

// Angles that lie on just a half before they are rounded: a step's angle that were off by one part of 2^62 would be seen.
func TestTG2AngleOfAHalfIsEven(t *testing.T) {
	cases := []struct {
		x, y int64
		want turn.Turn
	}{
		{10811, 158, 1063752404}, {158, 10811, 9989420}, {32433, 474, 1063752404}, {316, 21622, 9989420},
		{3287731859671473801, 1116917123307843057, 849881090}, {453818960153074034, 3753304871502352565, 82251848},
		{359310315219202234, 1475942236742285155, 163235058}, {4267673886545802182, 4156160462531496224, 545919316},
		{2407988875470691892, 3854436883285447896, 381707192}, {1089426998300102763, 1340209686418426096, 466563524},
		{2070953227068586732, 2758149870750762806, 440246150}, {110480934377553227, 742304982159589819, 100997010},
		{562168428058899937, 1102070169900432091, 322435468}, {1006119616144364101, 1043551773544587781, 524388678},
	}
	for _, c := range cases {
		wantAngle(t, c.x, c.y, c.want)
		wantAngle(t, c.x, -c.y, half-c.want)
		wantAngle(t, -c.x, -c.y, half+c.want)
		wantAngle(t, -c.x, c.y, -c.want)
		if got := steppedAngle(c.x, c.y); got != c.want {
			t.Errorf("(%d, %d): %d by whole numbers; want %d", c.x, c.y, got, c.want)
		}
	}
}

// firstAbove is the least x, up to y, at which a place lies above a direction; the least change of a step is seen there.
func firstAbove(t *testing.T, a turn.Turn, y int64) int64 {
	from, to := int64(0), y
	for from < to {
		x := from + (to-from)/2
		if got, err := trig.Angle(x, y); err != nil {
			t.Fatalf("Angle(%d, %d): %v", x, y, err)
		} else if got > a {
			to = x
		} else {
			from = x + 1
		}
	}
	return from
}

func TestTG2AngleWhereOnePartEnds(t *testing.T) {
	r := rand.New(rand.NewSource(3))
	for i := range 300 {
		y := int64(1)<<(59+i%3) + r.Int63n(1<<59)
		from := firstAbove(t, turn.Turn(r.Int63n(1<<29)), y)
		for x := max(from-6, 0); x <= from+6; x++ {
			wantAngle(t, x, y, steppedAngle(x, y))
			wantAngle(t, -y, -x, steppedAngle(-y, -x))
		}
	}
}

// turned is how far a place lies clockwise of a direction: its size by the sine of the angle between.
func turned(x, y int64, from turn.Turn) int {
	sine, cosine := exactBoth(from)
	return new(big.Int).Sub(cosine.Mul(cosine, big.NewInt(x)), sine.Mul(sine, big.NewInt(y))).Sign()
}

func TestTG4DirectionsAreNear(t *testing.T) {
	eachPlace(500, func(x, y int64) {
		if x == 0 && y == 0 {
			return
		}
		got, err := trig.Angle(x, y)
		if err != nil || turned(x, y, got-4) < 0 || turned(x, y, got+4) > 0 {
			t.Errorf("Angle(%d, %d): %d, %v is too far off", x, y, got, err)
		}
		// A direction half a turn off would pass by both signs alone.
		if turned(x, y, got-quarter) <= 0 || turned(x, y, got+quarter) >= 0 {
			t.Errorf("Angle(%d, %d): %d is the other way", x, y, got)
		}
	})
}

func TestTG2AngleErrors(t *testing.T) {
	wrong := func(x, y int64, want api.Errno) {
		t.Helper()
		got, err := trig.Angle(x, y)
		wantErrno(t, "Angle", err, want)
		if got != 0 {
			t.Errorf("Angle(%d, %d): %d beside an error", x, y, got)
		}
	}
	wrong(0, 0, 11)
	for _, n := range wrongNumbers {
		for _, other := range append(sizes(), wrongNumbers...) {
			wrong(n, other, 1)
			wrong(other, n, 1)
			wrong(n, -other, 1)
			wrong(-other, n, 1)
		}
	}
}
