package polar_test

import (
	"math/rand"
	"testing"

	"radome/polar"
)

func TestPO1CheckOfWhatMayBe(t *testing.T) {
	for _, s := range sensors() {
		if err := polar.Check(s); err != nil {
			t.Errorf("Check(%v): %v", s, err)
		}
	}
}

func TestPO1SpreadEdges(t *testing.T) {
	cases := []struct{ along, across, far, wantAlong, wantAcross int64 }{
		{metre, radian / 4, 4 * metre, metre, metre}, // a quarter of a radian of 4 m is 1 m
		{50 * metre, radian / 1024, 1024 * 100 * metre, 2500 * metre, 10000 * metre},
		{3 * metre / 2, radian / 8, 12 * metre, 9 * metre / 4, 9 * metre / 4},
		{1, 1, 0, 0, 0},
		{1, 1, greatestFar, 0, 1}, // across: 1,024 last bits, whose square is one
		{1, greatestTurn, 0, 0, 0},
		{1, greatestTurn, greatestFar, 0, 1 << 56},
		{greatestRange, 1, 0, 1 << 48, 0},
		{greatestRange, 1, greatestFar, 1 << 48, 1},
		{greatestRange, greatestTurn, 0, 1 << 48, 0},
		{greatestRange, greatestTurn, greatestFar, 1 << 48, 1 << 56},
		{greatestRange - 1, greatestTurn, greatestFar - 1, 1<<48 - 1<<15, 1 << 56}, // a quarter of a last bit less is none less
		{greatestRange, greatestTurn - 1, greatestFar, 1 << 48, 1<<56 - 1<<29 + 1},
		{724, 1, 725 << 30, 0, 1}, {725, 1, 724 << 30, 1, 0}, // squares of 524,176 and 525,625: below and above half a last bit
		{1254, 2, 1255 << 29, 1, 2}, {1255, 2, 1254 << 29, 2, 1}, // and of one and a half
	}
	for _, c := range cases {
		wantSpread(t, polar.Sensor{Range: c.along, Turn: c.across}, c.far, c.wantAlong, c.wantAcross)
	}
}

// far times Turn is rounded ahead of its square: halves to the even one, which the square tells as it is great.
func TestPO1AcrossOfAHalfIsEven(t *testing.T) {
	for _, wide := range []int64{1 << 20, 1<<20 + 1, 5 << 20, 5<<20 + 3, 1<<28 + 1, 1<<28 + 2, 1<<29 - 1, 1<<29 - 2} {
		s, far := polar.Sensor{Range: metre, Turn: 1 << 19}, (2*wide+1)<<10
		even := wide + wide%2
		if !onAHalf(timesOf(far, s.Turn), 30) {
			t.Fatalf("%d times %d is not on a half", far, s.Turn)
		}
		wantSpread(t, s, far, metre, rounded(timesOf(even, even), 20))
		wantSpread(t, s, far-1, metre, rounded(timesOf(wide, wide), 20))
		wantSpread(t, s, far+1, metre, rounded(timesOf(wide+1, wide+1), 20))
	}
}

// What is across is a number of metres first, and only that is squared: rounded twice.
func TestPO1AcrossIsRoundedTwice(t *testing.T) {
	s := polar.Sensor{Range: 1, Turn: 1}
	wantSpread(t, s, 725<<30-1<<29-1, 0, 0) // 724.5 last bits, less a little: 724
	wantSpread(t, s, 725<<30-1<<29, 0, 0)   // just a half: 724
	wantSpread(t, s, 725<<30-1<<29+1, 0, 1) // 725
}

func TestPO1SpreadStepByStep(t *testing.T) {
	for _, s := range sensors() {
		for _, far := range fars() {
			along, across := steppedSpread(s, far)
			wantSpread(t, s, far, along, across)
		}
	}
	r := rand.New(rand.NewSource(1))
	nought := 0
	for range 50000 {
		s, far := randomSensor(r), randomPlot(r).Range
		along, across := steppedSpread(s, far)
		wantSpread(t, s, far, along, across)
		if along == 0 || across == 0 {
			nought++
		}
	}
	if nought > 40000 {
		t.Errorf("nearly all is nought: %d", nought)
	}
}

// Along hangs on the sensor's Range alone, across on its Turn and on how far it is.
func TestPO1AlongAndAcrossAreTwo(t *testing.T) {
	r := rand.New(rand.NewSource(2))
	for range 5000 {
		s, other, far := randomSensor(r), randomSensor(r), randomPlot(r).Range
		along, across, err := polar.Spread(s, far)
		first, _, err1 := polar.Spread(polar.Sensor{Range: s.Range, Turn: other.Turn}, randomPlot(r).Range)
		_, second, err2 := polar.Spread(polar.Sensor{Range: other.Range, Turn: s.Turn}, far)
		if first != along || second != across || err != nil || err1 != nil || err2 != nil {
			t.Errorf("Spread(%v, %d): %d, %d; by others %d, %d", s, far, along, across, first, second)
		}
	}
}
