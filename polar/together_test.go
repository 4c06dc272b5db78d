package polar_test

import (
	"math/big"
	"math/rand"
	"testing"

	"radome/api"
	"radome/polar"
)

// near tells whether two numbers are no farther apart than their roundings can make: a sine and a cosine are off by at most four last bits (TG4), so both squares together by less than 12, and their rounding by one; the sums' rounding is one.
func near(a, b, size int64) bool {
	off := new(big.Int).Abs(big.NewInt(a - b))
	off.Sub(off, big.NewInt(1))
	return off.Lsh(off, 30).Cmp(timesOf(size, 13)) <= 0
}

// wantTogether asks for what PO3 says of a plot.
func wantTogether(t *testing.T, s polar.Sensor, p api.Plot) {
	t.Helper()
	along, across, err := polar.Spread(s, p.Range)
	if err != nil || along < 0 || across < 0 {
		t.Errorf("Spread(%v, %d): %d, %d, %v", s, p.Range, along, across, err)
	}
	got, _, err := polar.Of(s, p)
	if err != nil || got.XX < 0 || got.YY < 0 {
		t.Errorf("Of(%v, %v): %v, %v: below nothing", s, p, got, err)
	}
	if all := along + across; !near(got.XX+got.YY, all, all) {
		t.Errorf("Of(%v, %v): %v; together %d, but along and across are %d", s, p, got, got.XX+got.YY, all)
	}
}

func TestPO3TogetherTheyAreTheSame(t *testing.T) {
	for _, s := range sensors() {
		for _, far := range fars() {
			for _, azimuth := range directions() {
				wantTogether(t, s, plot(far, azimuth))
			}
		}
	}
	r := rand.New(rand.NewSource(6))
	for range 20000 {
		wantTogether(t, randomSensor(r), randomPlot(r))
	}
}

func TestPO3InEveryDirection(t *testing.T) {
	for azimuth := range 1 << 16 {
		wantTogether(t, polar.Sensor{Range: greatestRange, Turn: greatestTurn}, plot(greatestFar, uint16(azimuth)))
		wantTogether(t, polar.Sensor{Range: 1, Turn: greatestTurn}, plot(greatestFar, uint16(azimuth)))
		wantTogether(t, polar.Sensor{Range: greatestRange, Turn: 1}, plot(0, uint16(azimuth)))
		wantTogether(t, polar.Sensor{Range: 1, Turn: 1}, plot(0, uint16(azimuth)))
	}
}

// XX and YY lie between what is along and across, and XY is no more than half of what lies between these: but for little.
func TestPO3NoneIsBeyondAlongAndAcross(t *testing.T) {
	r := rand.New(rand.NewSource(7))
	for range 20000 {
		s, p := randomSensor(r), randomPlot(r)
		along, across, _ := polar.Spread(s, p.Range)
		less, more := min(along, across), max(along, across)
		got, _, err := polar.Of(s, p)
		for _, n := range []int64{got.XX, got.YY} {
			if bounded := min(max(n, less), more); err != nil || !near(n, bounded, along+across) {
				t.Errorf("Of(%v, %v): %v, %v; along and across are %d, %d", s, p, got, err, along, across)
			}
		}
		half := (more - less) / 2
		if bounded := min(max(got.XY, -half), half); !near(got.XY, bounded, along+across) {
			t.Errorf("Of(%v, %v): %v; XY is more than half of %d", s, p, got, more-less)
		}
	}
}
