package update_test

import (
	"math/rand"
	"testing"

	"radome/api"
	"radome/polar"
)

// The state and the place of an ordinary case: a thing that moves, of which all is known a little.
var someX = vector{10000 * unit, -50 * unit, unit, -7000 * unit, 120 * unit, -2 * unit}

func someP() table {
	return both(onDiagonal(2500*unit, 1000*unit, 25*unit, 1600*unit, 900*unit, 16*unit),
		place{0, 1, 900 * unit}, place{0, 2, 30 * unit}, place{0, 3, -400 * unit}, place{0, 4, 150 * unit}, place{0, 5, -20 * unit},
		place{1, 2, 40 * unit}, place{1, 3, 120 * unit}, place{1, 4, -60 * unit}, place{1, 5, 10 * unit},
		place{2, 3, -15 * unit}, place{2, 4, 7 * unit}, place{2, 5, -3 * unit},
		place{3, 4, 700 * unit}, place{3, 5, 35 * unit}, place{4, 5, 50 * unit})
}

var someSeen = polar.Seen{X: 10040 * unit, Y: -6955 * unit, XX: 1360720000, YY: 1360720000, XY: 1260720000}

func TestTheBoundIsMaxTop(t *testing.T) {
	if api.MaxTop != top || top != 4611686018427387903 {
		t.Errorf("MaxTop: %d", int64(api.MaxTop))
	}
}

func TestUD1Of(t *testing.T) {
	s := stateOf(someX, someP())
	wantOf(t, s, someSeen, [2]int64{41943040, 47185920}, pair{226843680, 3982160000, 2860706856}, false)
	// Of P just three numbers are looked at, and of X two.
	p := both(onDiagonal(2500*unit, 0, 0, 1600*unit), place{0, 3, -400 * unit})
	wantOf(t, stateOf(vector{0: 10000 * unit, 3: -7000 * unit}, p), someSeen, [2]int64{41943040, 47185920}, pair{226843680, 3982160000, 2860706856}, false)
	// The document's example of layer 9, put together of two spreads.
	p = both(onDiagonal(3*unit, 0, 0, unit), place{0, 3, 5 * unit})
	wantOf(t, stateOf(vector{1, 2, 3, 4, 5, 6}, p), polar.Seen{X: 100, Y: -100, XX: unit, YY: 2 * unit, XY: -3 * unit}, [2]int64{99, -104}, pair{whole / 2, 4 * unit, 2 * unit}, false)
	// Each number of the place goes where it should, with no P at all.
	wantOf(t, stateOf(vector{}, table{}), polar.Seen{X: 1, Y: 2, XX: 3 * unit, YY: 4 * unit, XY: 0}, [2]int64{1, 2}, pair{0, 3 * unit, 4 * unit}, false)
	wantOf(t, stateOf(vector{}, table{}), polar.Seen{X: 1, Y: 2, XX: 4 * unit, YY: 4 * unit, XY: -2 * unit}, [2]int64{1, 2}, pair{-whole / 2, 4 * unit, 3 * unit}, false)
}

// A place where the state is has no gap, however unsure both are.
func TestUD1OfAPlaceWhereTheStateIs(t *testing.T) {
	for _, n := range edges() {
		for _, m := range edges() {
			s := stateOf(vector{0: n, 1: top, 3: m, 5: -top}, someP())
			wantOf(t, s, polar.Seen{X: n, Y: m, XX: unit, YY: unit}, [2]int64{}, mustFactor(t, 2501*unit, -400*unit, 1601*unit), false)
		}
	}
}

func mustFactor(t *testing.T, xx, xy, yy int64) pair {
	t.Helper()
	f, ok := factored(xx, xy, yy)
	if !ok {
		t.Fatalf("%d, %d, %d: no factors", xx, xy, yy)
	}
	return f
}

// V too great alone, just so, and just not, on both sides, by x and by y.
func TestUD1OfTooGreatInV(t *testing.T) {
	for _, c := range []struct {
		seen, own, want int64
		great           bool
	}{
		{top, 0, top, false}, {-top, 0, -top, false}, {0, top, -top, false}, {0, -top, top, false}, {top, top, 0, false}, {-top, -top, 0, false},
		{top, 1, top - 1, false}, {top, -1, top, true}, {top - 1, -1, top, false}, {top - 1, -2, top, true}, {-top, 1, -top, true}, {-top, -1, 1 - top, false}, {1 - top, 1, -top, false}, {1 - top, 2, -top, true},
		{1, -top, top, true}, {-1, -top, top - 1, false}, {-1, top, -top, true}, {1, top, 1 - top, false}, {top, -top, top, true}, {-top, top, -top, true}, {1 << 61, -1 << 61, top, true}, {1 << 61, 1 - 1<<61, top, false},
	} {
		seen := polar.Seen{X: c.seen, Y: 7, XX: unit, YY: unit}
		x, p, other := swapped(vector{0: c.own, 3: 2}, onDiagonal(unit, 0, 0, 3*unit), seen)
		wantOf(t, stateOf(vector{0: c.own, 3: 2}, onDiagonal(unit, 0, 0, 3*unit)), seen, [2]int64{c.want, 5}, pair{0, 2 * unit, 4 * unit}, c.great)
		wantOf(t, stateOf(x, p), other, [2]int64{5, c.want}, pair{0, 4 * unit, 2 * unit}, c.great)
		seen.Y = seen.X
		wantOf(t, stateOf(vector{0: c.own, 3: c.own}, table{}), seen, [2]int64{c.want, c.want}, pair{0, unit, unit}, c.great)
	}
}

// The matrix too great alone: its numbers are bounded ahead of being factored.
func TestUD1OfTooGreatInTheMatrix(t *testing.T) {
	for _, c := range []struct {
		own, seen, want int64
		great           bool
	}{
		{top, 0, top, false}, {0, top, top, false}, {top - 1, 1, top, false}, {1, top - 1, top, false}, {top, 1, top, true}, {1, top, top, true}, {top - 1, 2, top, true}, {top, top, top, true}, {1 << 61, 1 << 61, top, true}, {1 << 61, 1<<61 - 1, top, false},
	} {
		wantOf(t, stateOf(vector{}, onDiagonal(c.own, 0, 0, unit)), polar.Seen{XX: c.seen, YY: unit}, [2]int64{}, pair{0, c.want, 2 * unit}, c.great)
		wantOf(t, stateOf(vector{}, onDiagonal(unit, 0, 0, c.own)), polar.Seen{XX: unit, YY: c.seen}, [2]int64{}, pair{0, 2 * unit, c.want}, c.great)
		wantOf(t, stateOf(vector{}, onDiagonal(c.own, 0, 0, c.own)), polar.Seen{XX: c.seen, YY: c.seen}, [2]int64{}, pair{0, c.want, c.want}, c.great)
	}
	// Bounded, it has other factors than what it would be.
	p := both(onDiagonal(top, 0, 0, top), place{0, 3, 1 << 61})
	f := mustFactor(t, top, 1<<61, top)
	if f.l != whole/2 || f.d1 != 3458764513820540927 {
		t.Errorf("%v", f)
	}
	wantOf(t, stateOf(vector{}, p), polar.Seen{XX: top, YY: top}, [2]int64{}, f, true)
	// Both at once.
	wantOf(t, stateOf(vector{top, 0, 0, -top}, p), polar.Seen{X: -top, Y: top, XX: top, YY: top}, [2]int64{-top, top}, f, true)
}

// Numbers of P and of the place that make a matrix with no factors, and such as just have them.
func TestUD1OfFactorsThatThereAre(t *testing.T) {
	for _, c := range []struct {
		xx, xy, yy int64 // P's and the place's together
		ok         bool
	}{
		{0, 0, 0, false}, {0, 0, unit, false}, {unit, 0, 0, false}, {1, 0, 1, true}, {1, 0, 0, false}, {0, 0, 1, false},
		{unit, unit, unit, false}, {unit, unit, unit + 1, true}, {unit + 1, unit, unit, true}, {unit, -unit, unit, false}, {unit, -unit, unit + 1, true}, {unit, unit + 1, unit, false}, {unit, unit - 1, unit, true},
		{4 * unit, 2 * unit, unit, false}, {4 * unit, 2 * unit, unit + 1, true}, {4 * unit, 2*unit + 1, unit, false}, {4 * unit, 2*unit + 1, unit + 1, false}, {4 * unit, 2*unit + 1, unit + 2, true},
		{1, 1, 1, false}, {1, 1, 2, true}, {1, 2, 4, false}, {1, 2, 5, true}, {1, -2, 5, true}, {2, 3, 5, true}, {2, 3, 4, false}, {3, 1, 1, true},
		{top, 0, top, true}, {top, top - 1, top, false}, {top, top - 1<<32, top, true}, {top, top, top, false}, {top, -top, top, false}, {top, 0, 0, false}, {1, 0, top, true}, {1, 1<<31 - 1, top, true}, {1, 1 << 31, top, false}, {1, 1 << 32, top, false}, {1, top, top, false}, {1, 1 << 31, 1 << 61, false},
	} {
		wantFactors(t, c.xx, c.xy, c.yy, c.ok)
	}
}

// wantFactors asks for these numbers together, taken apart in a few ways: whether all are P's, or the place's.
func wantFactors(t *testing.T, xx, xy, yy int64, ok bool) {
	t.Helper()
	apart := [][3]int64{{0, 0, 0}, {xx, xy, yy}, {xx / 2, xy / 3, yy}, {xx, 0, 0}, {0, xy, 0}, {0, 0, yy}}
	if xy > 0 && xy < top {
		apart = append(apart, [3]int64{xx, -1, 0}, [3]int64{0, xy + 1, yy})
	}
	for _, own := range apart {
		p := both(onDiagonal(own[0], 9, 9, own[2]), place{0, 3, own[1]})
		seen := polar.Seen{X: 5, Y: 7, XX: xx - own[0], YY: yy - own[2], XY: xy - own[1]}
		if _, got := check(t, vector{}, p, seen); got != ok {
			t.Errorf("%d, %d, %d: factors: %v", xx, xy, yy, got)
		}
		if !ok {
			wantNothing(t, stateOf(vector{}, p), seen, 8)
		}
	}
}

// Where both numbers beside the diagonal together are too great there are no factors; nothing is told beside that.
func TestUD1OfTooGreatBesideTheDiagonal(t *testing.T) {
	for _, c := range [][2]int64{{top, 1}, {1, top}, {top, top}, {1 << 61, 1 << 61}, {-top, -1}, {-1, -top}, {-top, -top}} {
		p := both(onDiagonal(top, 0, 0, top), place{0, 3, c[0]})
		for _, n := range []int64{0, 1, top} {
			wantNothing(t, stateOf(vector{top}, p), polar.Seen{X: -top, XX: n, YY: n, XY: c[1]}, 8)
		}
	}
}

// XX and YY of 0: a place that is just there.
func TestUD1OfAnExactPlace(t *testing.T) {
	p := both(onDiagonal(4*unit, 0, 0, 3*unit), place{0, 3, 2 * unit})
	wantOf(t, stateOf(vector{}, p), polar.Seen{X: unit, Y: -unit}, [2]int64{unit, -unit}, pair{whole / 2, 4 * unit, 2 * unit}, false)
	wantOf(t, stateOf(vector{}, p), polar.Seen{YY: unit}, [2]int64{}, pair{whole / 2, 4 * unit, 3 * unit}, false)
	wantOf(t, stateOf(vector{}, p), polar.Seen{XX: 4 * unit}, [2]int64{}, pair{whole / 4, 8 * unit, 3*unit - unit/2}, false)
	wantNothing(t, stateOf(vector{}, table{}), polar.Seen{}, 8)
	wantNothing(t, stateOf(vector{}, onDiagonal(unit)), polar.Seen{}, 8)
	wantNothing(t, stateOf(vector{}, onDiagonal(0, 0, 0, unit)), polar.Seen{YY: unit}, 8)
	wantNothing(t, stateOf(vector{}, onDiagonal(unit)), polar.Seen{XX: unit}, 8)
}

// The numbers of MaxTop's size, on both sides, at each place.
func TestUD1OfMaxTop(t *testing.T) {
	good := 0
	for _, x := range []int64{top, -top, 0} {
		for _, y := range []int64{top, -top} {
			for _, xx := range []int64{0, 1, unit, top - 1, top} {
				for _, yy := range []int64{0, 1, unit, top - 1, top} {
					for _, xy := range []int64{0, 1, -1, unit, top - 1, top, -top} {
						seen := polar.Seen{X: x, Y: y, XX: xx, YY: yy, XY: xy}
						for _, p := range []table{{}, someP(), onDiagonal(top, top, top, top, top, top), both(onDiagonal(top, 0, 0, top), place{0, 3, -top}), both(onDiagonal(1, 0, 0, 1), place{0, 3, top})} {
							if _, ok := check(t, vector{-y, 0, 0, -x, top, -top}, p, seen); ok {
								good++
							}
						}
					}
				}
			}
		}
	}
	if good < 1000 {
		t.Errorf("just %d with factors", good)
	}
}

func TestUD1OfRandomNumbers(t *testing.T) {
	r := rand.New(rand.NewSource(1))
	count := map[[3]bool]int{}
	for range 30000 {
		x, p := randomState(r, 1+r.Intn(62))
		if r.Intn(2) == 0 {
			p = randomSpread(r, 2+r.Intn(60))
		}
		seen := randomSeen(r, 1+r.Intn(62))
		var w way
		v, f, ok := w.gap(x, p, seen)
		if ok {
			wantOf(t, stateOf(x, p), seen, v, f, w.great != which{})
		} else {
			wantNothing(t, stateOf(x, p), seen, 8)
		}
		count[[3]bool{ok, w.great[stepV], w.great[stepS]}]++
	}
	for _, which := range [][3]bool{{false, false, false}, {true, false, false}, {true, true, false}, {true, false, true}} {
		if count[which] < 100 {
			t.Errorf("just %d of %v", count[which], which)
		}
	}
}
