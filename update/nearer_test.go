package update_test

import (
	"math/big"
	"math/rand"
	"testing"

	"radome/api"
	"radome/model"
	"radome/polar"
	"radome/predict"
	"radome/update"
)

// UD3 speaks of states and places whose spreads something could have; nearer is so by how sure the gap is, as Far tells it. (By metres alone a state may go away by y while it comes nearer by x, which is seen much better.)

// spreadAlong is a spread along (a, b), times the square of how long that is, exactly.
func spreadAlong(xx, xy, yy, a, b int64) *big.Int {
	sum := new(big.Int).Mul(big.NewInt(a*a), big.NewInt(xx))
	sum.Add(sum, new(big.Int).Mul(big.NewInt(2*a*b), big.NewInt(xy)))
	return sum.Add(sum, new(big.Int).Mul(big.NewInt(b*b), big.NewInt(yy)))
}

// wantNotLessSure asks that a state be unsure of its place by no more than it was, in any direction, but for little.
func wantNotLessSure(t *testing.T, what string, was, is predict.State, little int64) {
	t.Helper()
	p, q := tableOf(was.P), tableOf(is.P)
	for _, d := range [][2]int64{{1, 0}, {0, 1}, {1, 1}, {1, -1}, {2, 1}, {-1, 2}, {5, 1}, {1, 5}, {-7, 2}, {3, -10}, {100, 1}, {-1, 100}} {
		before, after := spreadAlong(p[0][0], p[0][3], p[3][3], d[0], d[1]), spreadAlong(q[0][0], q[0][3], q[3][3], d[0], d[1])
		before.Add(before, spreadAlong(little, 0, little, d[0], d[1]))
		if after.Cmp(before) > 0 {
			t.Errorf("%s: less sure along %v: %v, then %v", what, d, was, is)
		}
	}
}

// wantNearer asks that a state be no farther from a place than it was, by the factors of the gap, but for little.
func wantNearer(t *testing.T, was, is predict.State, seen polar.Seen) {
	t.Helper()
	gap, over, err := update.Of(was, seen)
	before, over2, err2 := update.Far(gap)
	if over || over2 || err != nil || err2 != nil {
		t.Errorf("%v, %v: %v, %v, %v, %v", was, seen, over, over2, err, err2)
	}
	gap.V = [2]int64{seen.X - is.X[0], seen.Y - is.X[3]}
	after, over, err := update.Far(gap)
	if over || err != nil || after > before+before>>10+4 {
		t.Errorf("Next(%v, %v): %v is farther: %d, then %d", was, seen, is, before, after)
	}
}

// By x and y alone, which share nothing, a state never goes away, nor beyond the place, not by a last bit; it is never less sure by more than one.
func TestUD3OfXAndYAlone(t *testing.T) {
	r := rand.New(rand.NewSource(7))
	for range 20000 {
		var x vector
		x[0], x[3] = random(r, 61), random(r, 61)
		p := onDiagonal(above(r, 1+r.Intn(61)), 0, 0, above(r, 1+r.Intn(61)))
		seen := polar.Seen{X: random(r, 61) / 2, Y: random(r, 61) / 2, XX: above(r, 1+r.Intn(61)) / 2, YY: above(r, 1+r.Intn(61)) / 2}
		if p[0][0]+seen.XX == 0 || p[3][3]+seen.YY == 0 || p[0][0] > top-seen.XX || p[3][3] > top-seen.YY {
			continue
		}
		was := stateOf(x, p)
		is, _, err := update.Next(was, seen)
		if err != nil {
			t.Fatal(err)
		}
		wantBetween(t, is.X[0], x[0], seen.X)
		wantBetween(t, is.X[3], x[3], seen.Y)
		wantNotLessSure(t, call("Next", was, seen), was, is, 1)
	}
}

// wantBetween asks that n be from one number to another one.
func wantBetween(t *testing.T, n, from, to int64) {
	t.Helper()
	if n < min(from, to) || n > max(from, to) {
		t.Errorf("from %d to %d: %d", from, to, n)
	}
}

// Spreads that hang together in all ways: of a state as a radar follows it, and of a place.
func TestUD3OfSpreads(t *testing.T) {
	r := rand.New(rand.NewSource(8))
	good := 0
	for range 8000 {
		x, _ := randomState(r, 38)
		for i := range x {
			x[i] = max(-1<<38, min(1<<38, x[i]))
		}
		p, other := randomSpread(r, 20+r.Intn(25)), randomSpread(r, 20+r.Intn(25))
		seen := polar.Seen{X: x[0] + random(r, 30), Y: x[3] + random(r, 30), XX: other[0][0] + unit, YY: other[3][3] + unit, XY: other[0][3]}
		was := stateOf(x, p)
		is, over, err := update.Next(was, seen)
		if err != nil || over {
			continue // by rounding there may be no factors
		}
		good++
		wantNearer(t, was, is, seen)
		wantNotLessSure(t, call("Next", was, seen), was, is, 4+(p[0][0]+p[3][3]+seen.XX+seen.YY)>>20)
	}
	if good < 7000 {
		t.Errorf("just %d", good)
	}
}

// A state that sees the same place over and over comes nearer to it each time, and is ever more sure.
func TestUD3OverAndOver(t *testing.T) {
	s := stateOf(someX, someP())
	seen := polar.Seen{X: 10300 * unit, Y: -6500 * unit, XX: 900 * unit, YY: 400 * unit, XY: -100 * unit}
	for range 40 {
		next, over, err := update.Next(s, seen)
		if over || err != nil {
			t.Fatal(over, err)
		}
		wantNearer(t, s, next, seen)
		wantNotLessSure(t, call("Next", s, seen), s, next, 2)
		s = next
	}
	for _, n := range []int64{s.X[0] - seen.X, s.X[3] - seen.Y} {
		if n > 40*unit || n < -40*unit {
			t.Errorf("still %d away: %v", n, s.X)
		}
	}
}

// A flight: predicted by layer 12 with a model of layer 11, seen by layer 10, each time nearer to what was seen and more sure.
func TestUD3OfAFlight(t *testing.T) {
	r := rand.New(rand.NewSource(9))
	sensor := polar.Sensor{Range: 50 * unit, Turn: 1 << 20}
	for _, kind := range []int{model.Still, model.Pushed, model.Left, model.Right} {
		m := model.Model{Kind: kind, Noise: unit}
		if kind >= model.Left {
			m.Rate = 1 << 26
		}
		step, _, err := model.Step(m, 4*unit)
		noise, _, err2 := model.Noise(m, 4*unit)
		s, err3 := predict.Blank(20000*unit, 30000*unit, 0, 0, 2500*unit, 10000*unit, 100*unit)
		if err != nil || err2 != nil || err3 != nil {
			t.Fatal(err, err2, err3)
		}
		for i := range 60 {
			s, _, err = predict.Next(s, step, noise)
			seen, _, err2 := polar.Of(sensor, api.Plot{Range: 36000*unit + int64(i)*400*unit + random(r, 26), Azimuth: uint16(6100 + 20*i + r.Intn(30))})
			if err != nil || err2 != nil {
				t.Fatal(err, err2)
			}
			check(t, s.X, tableOf(s.P), seen)
			next, over, err := update.Next(s, seen)
			if over || err != nil {
				t.Fatal(over, err)
			}
			wantNearer(t, s, next, seen)
			wantNotLessSure(t, call("Next", s, seen), s, next, 4)
			if err := predict.Check(next); err != nil {
				t.Errorf("Check(%v): %v", next, err)
			}
			s = next
		}
	}
}
