package ldl_test

import (
	"math"
	"math/rand"
	"testing"

	"radome/grow"
	"radome/ldl"
)

// wantLog asks for just that number.
func wantLog(t testing.TB, l table, d []int64, want int64) {
	t.Helper()
	if got, err := ldl.Log(factorsOf(l, d)); got != want || err != nil {
		t.Errorf("Log(%v, %v): %d, %v; want %d", l, d, got, err, want)
	}
}

func TestLD3Log(t *testing.T) {
	for _, c := range []struct {
		d    []int64
		want int64
	}{
		{parts(unit), 0}, {filled(unit, 6), 0}, {scaled(unit, 4, 2), 2180452}, // the document's: that of eight
		{parts(1), -14536350}, {parts(2), -13809532}, {parts(3), -13384371}, {parts(1 << 50), 21804525}, {parts(top), 30526335},
		{filled(1, 6), -87218100}, {filled(top, 6), 183158010}, {parts(1, top), 15989985}, {parts(top, 1, 1), 1453635},
		{filled(3, 6), -80306226}, {parts(1, 2, 3, 1, 2, 3), -83460506}, // the logarithms are rounded one by one
		{parts(unit/2, unit, 2*unit), 0}, {parts(2*unit, unit, unit/2, 1), -14536350},
	} {
		wantLog(t, lower(len(c.d)), c.d, c.want)
	}
}

// Log hangs on D alone, and on all of it.
func TestLD3LogOfRandomFactors(t *testing.T) {
	r := rand.New(rand.NewSource(10))
	for i := range 3000 {
		l, d := randomFactors(r, 1+i%6, 61, 1+r.Intn(61))
		want, near := int64(0), 0.0
		for _, n := range d {
			one, err := grow.Log(n, 20)
			if err != nil {
				t.Fatal(err)
			}
			want += one
			near += math.Log(float64(n)/(1<<20)) * (1 << 20)
		}
		wantLog(t, l, d, want)
		if math.Abs(near-float64(want)) > 12 {
			t.Errorf("Log of %v: %d is not near %f", d, want, near)
		}
	}
}
