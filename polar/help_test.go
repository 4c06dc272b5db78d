package polar_test

import (
	"errors"
	"math"
	"math/big"
	"math/rand"
	"testing"

	"radome/api"
	"radome/polar"
	"radome/trig"
	"radome/turn"
)

// The reckoner that the tests hold all answers against goes the chapter's steps by math/big, each rounded by its definition. Sines and cosines alone are layer 5's, as the chapter says.

const (
	metre  = int64(1) << 20
	radian = int64(1) << 30
	most   = math.MaxInt64
	least  = math.MinInt64

	greatestRange = int64(1) << 34 // of a sensor
	greatestTurn  = int64(1) << 28
	greatestFar   = int64(1) << 40 // a plot's Range

	quarter = uint16(1) << 14
	eighth  = quarter / 2
	last    = uint16(1<<16 - 1)
)

// timesOf is a product, exactly.
func timesOf(a, b int64) *big.Int { return new(big.Int).Mul(big.NewInt(a), big.NewInt(b)) }

// rounded is the whole number nearest to n by 2 to the power of bits, of two such the even one.
func rounded(n *big.Int, bits uint) int64 {
	by := new(big.Int).Lsh(big.NewInt(1), bits)
	down, rest := new(big.Int).DivMod(n, by, new(big.Int))
	switch rest.Lsh(rest, 1).Cmp(by) {
	case 1:
		return down.Int64() + 1
	case 0:
		return down.Int64() + int64(down.Bit(0))
	}
	return down.Int64()
}

// onAHalf tells whether n by 2 to the power of bits lies halfway between two whole numbers.
func onAHalf(n *big.Int, bits uint) bool {
	return n.Sign() != 0 && n.TrailingZeroBits() == bits-1
}

// steppedSpread is what PO1 says along and across.
func steppedSpread(s polar.Sensor, far int64) (along, across int64) {
	wide := rounded(timesOf(far, s.Turn), 30)
	return rounded(timesOf(s.Range, s.Range), 20), rounded(timesOf(wide, wide), 20)
}

// exactSums are what XX, YY and XY are before they are rounded, with Prob bits more behind the point.
func exactSums(s polar.Sensor, p api.Plot) (xx, yy, xy *big.Int) {
	a, b := steppedSpread(s, p.Range)
	sine, cosine := trig.Both(turn.Turn(p.Azimuth) * (1 << 16))
	ss, cc, sc := rounded(timesOf(sine, sine), 30), rounded(timesOf(cosine, cosine), 30), rounded(timesOf(sine, cosine), 30)
	xx, yy, xy = timesOf(a, ss), timesOf(a, cc), timesOf(a, sc)
	return xx.Add(xx, timesOf(b, cc)), yy.Add(yy, timesOf(b, ss)), xy.Sub(xy, timesOf(b, sc))
}

// steppedSeen is what PO2 says of a plot.
func steppedSeen(s polar.Sensor, p api.Plot) polar.Seen {
	sine, cosine := trig.Both(turn.Turn(p.Azimuth) * (1 << 16))
	xx, yy, xy := exactSums(s, p)
	return polar.Seen{
		X: rounded(timesOf(p.Range, sine), 30), Y: rounded(timesOf(p.Range, cosine), 30),
		XX: rounded(xx, 30), YY: rounded(yy, 30), XY: rounded(xy, 30),
	}
}

// plot is one at no time in particular.
func plot(far int64, azimuth uint16) api.Plot { return api.Plot{Range: far, Azimuth: azimuth} }

// wantSpread asks for just these, without an error.
func wantSpread(t testing.TB, s polar.Sensor, far, along, across int64) {
	t.Helper()
	a, b, err := polar.Spread(s, far)
	if a != along || b != across || err != nil {
		t.Errorf("Spread(%v, %d): %d, %d, %v; want %d, %d", s, far, a, b, err, along, across)
	}
}

// wantSeen asks for just that place, nothing of it too great, without an error.
func wantSeen(t testing.TB, s polar.Sensor, p api.Plot, want polar.Seen) {
	t.Helper()
	got, over, err := polar.Of(s, p)
	if got != want || over || err != nil {
		t.Errorf("Of(%v, %v): %v, %v, %v; want %v", s, p, got, over, err, want)
	}
}

// wantArg asks for the error of a wrong argument.
func wantArg(t testing.TB, what string, err error) {
	t.Helper()
	var number api.Errno
	if !errors.As(err, &number) || number != 1 {
		t.Errorf("%s: error %v; want 1", what, err)
	}
}

// sensors are those at the bounds and next to them, and some between.
func sensors() []polar.Sensor {
	var out []polar.Sensor
	for _, along := range []int64{1, 2, 724, 725, 50 * metre, 50*metre + 1, greatestRange - 1, greatestRange} {
		for _, across := range []int64{1, 2, radian / 1000, radian/1000 + 1, greatestTurn - 1, greatestTurn} {
			out = append(out, polar.Sensor{Range: along, Turn: across})
		}
	}
	return out
}

// fars are plots' Ranges at the bounds and next to them, and some between.
func fars() []int64 {
	return []int64{0, 1, 2, metre, 1000 * metre, 1000*metre + 1, 1 << 39, greatestFar - 1, greatestFar}
}

// directions are those along both axes, on both sides, halfway between them, and their neighbours; the last one is among them.
func directions() []uint16 {
	var out []uint16
	for i := range uint16(8) {
		out = append(out, i*eighth-1, i*eighth, i*eighth+1)
	}
	return out
}

// randomSensor is one that may be, of any size.
func randomSensor(r *rand.Rand) polar.Sensor {
	return polar.Sensor{Range: 1 + r.Int63n(greatestRange)>>r.Intn(34), Turn: 1 + r.Int63n(greatestTurn)>>r.Intn(28)}
}

// randomPlot is one that may be, at any time.
func randomPlot(r *rand.Rand) api.Plot {
	return api.Plot{Range: r.Int63n(greatestFar+1) >> r.Intn(41), Azimuth: uint16(r.Uint32()), Time: int64(r.Uint64())}
}
