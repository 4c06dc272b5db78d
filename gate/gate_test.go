package gate_test

import (
	"math/rand"
	"testing"

	"radome/polar"
	"radome/predict"
)

// told is what a most is to make of a place: whether it is near enough.
type told struct {
	within int64
	near   bool
}

func TestGA1OfAnOrdinaryCase(t *testing.T) {
	l, p := states(), spots()
	for i, row := range fars() {
		for k, far := range row {
			for _, within := range mosts() {
				if far < 0 {
					wantNoGate(t, l[i], p[k], within, 8)
					continue
				}
				wantGate(t, l[i], p[k], within, far, far <= within, false)
			}
		}
	}
}

// 3 m and 4 m off, exact to a metre: 25. Twice as unsure: a half of that. As sure as the place, 20 m away: 400 by 200.
func TestGA1ByHand(t *testing.T) {
	for _, c := range []struct {
		s   predict.State
		p   polar.Seen
		far int64
	}{
		{sure(0, 0), spot(3*unit, 4*unit), 25 * unit}, {sure(0, 0), spot(-3*unit, -4*unit), 25 * unit}, {sure(3*unit, 4*unit), spot(0, 0), 25 * unit},
		{sure(-500*unit, 70*unit), spot(-497*unit, 66*unit), 25 * unit},
		{known(0, 0, unit, 0, unit), spot(3*unit, 4*unit), 25 * unit / 2}, {known(0, 0, 8*unit, 0, 15*unit), spot(3*unit, 4*unit), 2 * unit},
		{known(0, 0, 100*unit, 0, 100*unit), polar.Seen{X: 20 * unit, XX: 100 * unit, YY: 100 * unit}, 2 * unit},
		{known(0, 0, 4*unit, 2*unit, 3*unit), exact(6*unit, 5*unit), 11 * unit}, {sure(0, 0), polar.Seen{X: 6 * unit, Y: 5 * unit, XX: 4 * unit, XY: 2 * unit, YY: 3 * unit}, 11 * unit},
		{known(0, 0, 4*unit, 2*unit, 3*unit), exact(2*unit, -unit), 3 * unit}, {known(0, 0, unit, 3*unit, unit), polar.Seen{X: 6 * unit, Y: 5 * unit, XX: 3 * unit, XY: -unit, YY: 2 * unit}, 11 * unit},
	} {
		for _, m := range []told{{c.far, true}, {c.far - 1, false}, {c.far + 1, true}, {widest, true}, {1, false}} {
			wantGate(t, c.s, c.p, m.within, c.far, m.near, false)
		}
		checkGate(t, c.s, c.p, c.far)
	}
}

// At no distance at all a place is near enough, how unsure both may be.
func TestGA1TheExample(t *testing.T) {
	for _, n := range []int64{1, 2, unit, 1 << 40, top} {
		for _, x := range []int64{0, 1, -unit, 1 << 61, top, -top} {
			for _, within := range mosts() {
				wantGate(t, known(x, -x, n, 0, n), exact(x, -x), within, 0, true, false)
				wantGate(t, sure(x, -x), polar.Seen{X: x, Y: -x, XX: n, YY: n}, within, 0, true, false)
			}
		}
	}
}

// Just as far as most, one bit nearer, and one bit farther; with the least most and with the greatest.
func TestGA1JustAsFarAsMost(t *testing.T) {
	s := sure(0, 0)
	for _, c := range []struct {
		x, y, far int64
		near      []told
	}{
		{0, 0, 0, []told{{1, true}, {widest, true}}},
		{724, 0, 0, []told{{1, true}}}, {0, -724, 0, []told{{1, true}}}, // nearly half a bit
		{725, 0, 1, []told{{1, true}, {2, true}}}, {1024, 0, 1, []told{{1, true}, {2, true}}}, {0, -1024, 1, []told{{1, true}, {2, true}}},
		{1024, 1024, 2, []told{{1, false}, {2, true}, {3, true}}}, {1448, 0, 2, []told{{1, false}, {2, true}}},
		{1 << 25, 0, widest, []told{{widest, true}, {widest - 1, false}, {1, false}}}, {0, -1 << 25, widest, []told{{widest, true}, {widest - 1, false}}},
		{1 << 25, 1024, widest + 1, []told{{widest, false}, {widest - 1, false}, {1, false}}}, {-1024, 1 << 25, widest + 1, []told{{widest, false}}},
		{1<<25 - 1, 8128, widest - 1, []told{{widest, true}, {widest - 1, true}, {widest - 2, false}}},
		{1<<25 + 1, 0, widest + 64, []told{{widest, false}}}, {1 << 40, 0, 1 << 60, []told{{widest, false}, {1, false}}}, {1<<41 - 1, 0, 1<<62 - 1<<22, []told{{widest, false}, {1, false}}},
	} {
		for _, m := range c.near {
			wantGate(t, s, spot(c.x, c.y), m.within, c.far, m.near, false)
		}
	}
}

// The same of any two: how far they are is near enough, one bit less is not.
func TestGA1JustAsFarAsMostOfRandomPairs(t *testing.T) {
	r := rand.New(rand.NewSource(1))
	count := 0
	for count < 2000 {
		l, p := randomAll(r, 1, 1)
		a := reckoned(l[0], p[0])
		if !a.ok || a.over || a.far < 1 || a.far > widest {
			continue
		}
		count++
		wantGate(t, l[0], p[0], a.far, a.far, true, false)
		if a.far > 1 {
			wantGate(t, l[0], p[0], a.far-1, a.far, false, false)
		}
		if a.far < widest {
			wantGate(t, l[0], p[0], a.far+1, a.far, true, false)
		}
	}
}

// Where both together have no factors: layer 13's error, with any most.
func TestGA1WhereNothingCanBeTold(t *testing.T) {
	for _, c := range without() {
		for _, within := range mosts() {
			wantNoGate(t, c.s, c.p, within, 8)
		}
		checkGate(t, c.s, c.p, unit)
	}
	// With a last bit more it can.
	wantGate(t, sure(0, 0), polar.Seen{XX: 1, YY: 1}, 1, 0, true, false)
	wantGate(t, known(5, 6, 1, 0, 0), polar.Seen{X: 5, Y: 6, YY: 1}, 1, 0, true, false)
	wantGate(t, known(5, 6, unit, unit, unit), polar.Seen{X: 5, Y: 6, YY: 1}, 1, 0, true, false)
}

// pair is a state and a place.
type pair struct {
	s predict.State
	p polar.Seen
}

// without are such of which nothing can be told, at the same place and far apart.
func without() []pair {
	var out []pair
	for _, p := range []polar.Seen{exact(0, 0), exact(5*unit, -unit), exact(top, -top), exact(-top, top)} {
		for _, x := range []int64{0, 5 * unit, top, -top} {
			out = append(out, pair{sure(x, -x), p}, pair{known(x, -x, unit, 0, 0), p}, pair{known(x, -x, 0, 0, unit), p}, pair{known(x, -x, unit, unit, unit), p}, pair{known(x, -x, unit, -unit-1, unit), p},
				pair{known(x, -x, 0, unit, top), p}, pair{known(x, -x, top, top, top), p}, pair{known(x, -x, 1, top, 1), p})
		}
		p.XX, p.YY, p.XY = unit, unit, unit
		out = append(out, pair{sure(0, 0), p}, pair{known(5, 5, top, -top, top), polar.Seen{X: p.X, Y: p.Y, XY: -top}})
	}
	return out
}

// X and Y, P's numbers of the place and the place's: each for itself moves how far it is.
func TestGA1EachNumberIsTaken(t *testing.T) {
	const far = int64(8)
	s, p := known(20*unit, 30*unit, 6*unit, 2*unit, 8*unit), polar.Seen{X: 26 * unit, Y: 20 * unit, XX: 3 * unit, XY: -unit, YY: 5 * unit}
	was := checkGate(t, s, p, far)
	for _, by := range []int64{unit, -unit} {
		for k := range 10 {
			s, p := s, p
			for _, n := range [][]*int64{{&s.X[0]}, {&s.X[3]}, {&s.P.A[0]}, {&s.P.A[3], &s.P.A[18]}, {&s.P.A[21]}, {&p.X}, {&p.Y}, {&p.XX}, {&p.XY}, {&p.YY}}[k] {
				*n += by
			}
			if now := checkGate(t, s, p, far); now.far == was.far {
				t.Errorf("%d makes no difference", k)
			}
		}
	}
	// All others of a state make none.
	for _, at := range []place{{1, 1, 5}, {2, 2, top}, {4, 4, 0}, {5, 5, 1}, {0, 1, top}, {0, 2, -top}, {0, 4, 9}, {0, 5, 1}, {1, 3, -top}, {3, 4, 5}, {3, 5, top}, {1, 2, 7}, {4, 5, 8}} {
		other := s
		other.P.A[6*at.i+at.j], other.P.A[6*at.j+at.i] = at.n, at.n
		other.X[1], other.X[2], other.X[4], other.X[5] = at.n, -at.n, top, 0
		wantGate(t, other, p, widest, was.far, true, false)
	}
}

func TestGA1OfRandomPairs(t *testing.T) {
	r := rand.New(rand.NewSource(2))
	count := map[string]int{}
	for range 20000 {
		l, p := randomAll(r, 1, 1)
		within := randomMost(r)
		switch a := checkGate(t, l[0], p[0], within); {
		case !a.ok:
			count["nothing told"]++
		case a.over:
			count["too great"]++
		case a.isNear(within):
			count["near"]++
		default:
			count["far"]++
		}
	}
	for _, kind := range []string{"nothing told", "too great", "near", "far"} {
		if count[kind] < 900 {
			t.Errorf("%s: just %d", kind, count[kind])
		}
	}
}
