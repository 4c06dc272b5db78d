package polar_test

import (
	"fmt"
	"testing"

	"radome/api"
	"radome/polar"
)

// wrongSensors are those whose Range, Turn or both can't be.
func wrongSensors() []polar.Sensor {
	beyond := func(greatest int64) []int64 {
		return []int64{0, -1, -2, -greatest, -greatest - 1, greatest + 1, greatest + 2, 2 * greatest, 1 << 32, 1<<32 + 1, -1 << 32, 1 << 62, most, most - 1, least, least + 1}
	}
	ranges, turns := beyond(greatestRange), beyond(greatestTurn)
	out := []polar.Sensor{{}}
	for _, n := range ranges {
		if n >= 1 && n <= greatestRange {
			continue // what is beyond the one may be within the other
		}
		for _, turn := range append(turns, 1, radian/1000, greatestTurn) {
			out = append(out, polar.Sensor{Range: n, Turn: turn})
		}
	}
	for _, n := range turns {
		for _, along := range []int64{1, 50 * metre, greatestRange} {
			out = append(out, polar.Sensor{Range: along, Turn: n})
		}
	}
	return out
}

// wrongFars are a plot's Ranges that can't be.
var wrongFars = []int64{
	-1, -2, -metre, -greatestFar, -greatestFar - 1, greatestFar + 1, greatestFar + 2, 2 * greatestFar,
	1 << 62, -1 << 62, api.MaxTop, -api.MaxTop, most, most - 1, least, least + 1,
}

func wantWrongSpread(t *testing.T, s polar.Sensor, far int64) {
	t.Helper()
	along, across, err := polar.Spread(s, far)
	wantArg(t, fmt.Sprintf("Spread(%v, %d)", s, far), err)
	if along != 0 || across != 0 {
		t.Errorf("Spread(%v, %d): %d, %d beside an error", s, far, along, across)
	}
}

func wantWrongOf(t *testing.T, s polar.Sensor, p api.Plot) {
	t.Helper()
	got, over, err := polar.Of(s, p)
	wantArg(t, fmt.Sprintf("Of(%v, %v)", s, p), err)
	if got != (polar.Seen{}) || over {
		t.Errorf("Of(%v, %v): %v, %v beside an error", s, p, got, over)
	}
}

func TestPO1CheckOfWhatMayNotBe(t *testing.T) {
	for _, s := range wrongSensors() {
		wantArg(t, fmt.Sprintf("Check(%v)", s), polar.Check(s))
	}
}

func TestPO1SpreadErrors(t *testing.T) {
	for _, s := range wrongSensors() {
		for _, far := range append(fars(), wrongFars...) {
			wantWrongSpread(t, s, far)
		}
	}
	for _, s := range sensors() {
		for _, far := range wrongFars {
			wantWrongSpread(t, s, far)
		}
	}
}

func TestPO2OfErrors(t *testing.T) {
	for _, s := range wrongSensors() {
		for _, far := range append(fars(), wrongFars...) {
			wantWrongOf(t, s, plot(far, eighth+7))
		}
	}
	for _, s := range sensors() {
		for _, far := range wrongFars {
			for _, azimuth := range directions() {
				wantWrongOf(t, s, api.Plot{Range: far, Azimuth: azimuth, Time: 5})
			}
		}
	}
}
