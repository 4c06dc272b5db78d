package predict_test

import (
	"math/big"
	"math/rand"
	"testing"

	"radome/model"
	"radome/predict"
)

// alone are the steps of which just one was too great.
func alone(step int) (out [allSteps]bool) {
	out[step] = true
	return out
}

// wantGreat asks for just these numbers, and that just these steps were too great.
func wantGreat(t *testing.T, what string, x vector, p, step, noise table, wantX vector, wantP table, steps [allSteps]bool) {
	t.Helper()
	got, over, err := predict.Next(stateOf(x, p), matOf(step), matOf(noise))
	wantState(t, what, got, over, err, stateOf(wantX, wantP), steps != [allSteps]bool{})
	if great := checkNext(t, x, p, step, noise); great != steps {
		t.Errorf("%s: the steps %v were too great, not %v", what, great, steps)
	}
}

var none [allSteps]bool

func TestPD2TooGreatInX(t *testing.T) {
	for i := range 6 {
		one, other := (i+1)%6, (i+4)%6
		step := with(table{}, place{i, one, unit}, place{i, other, unit / 2})
		for _, c := range []struct {
			a, b, want int64
			great      bool
		}{
			{top, 0, top, false}, {top - 1, 2, top, false}, {top, 2, top, true}, {top - 1, 4, top, true}, {top, 1, top, true}, {top - 1, 1, top - 1, false}, {top, top, top, true}, {top, -1, top - 1, false},
			{-top, 0, -top, false}, {1 - top, -2, -top, false}, {-top, -2, -top, true}, {-top, -1, -top, true}, {1 - top, -1, 1 - top, false}, {-top, -top, -top, true},
		} {
			var x, want vector
			x[one], x[other], want[i] = c.a, c.b, c.want
			steps := none
			steps[stepX] = c.great
			wantGreat(t, call("X", i, c.a, c.b), x, table{}, step, table{}, want, table{}, steps)
		}
	}
	// A sum within bounds of products that are not.
	wantGreat(t, "X, twice less once more", vector{top, top}, table{}, with(table{}, place{0, 0, 2 * unit}, place{0, 1, -unit}), table{}, vector{top}, table{}, none)
}

func TestPD2TooGreatInTheFirstProduct(t *testing.T) {
	// What is too great stands in a column of the first product that no row of the step looks at, so nothing else is.
	for _, c := range []struct {
		n     int64
		great bool
	}{{1 << 61, true}, {-1 << 61, true}, {1<<61 - 1, false}, {1 - 1<<61, false}, {top, true}, {-top, true}} {
		for _, at := range [][3]int{{0, 1, 2}, {3, 4, 5}, {5, 0, 3}, {2, 5, 1}, {1, 3, 0}, {4, 2, 3}} {
			steps := none
			steps[firstProduct] = c.great
			p := both(table{}, place{at[1], at[2], c.n})
			step := with(table{}, place{at[0], at[1], 2 * unit})
			wantGreat(t, call("first product", c.n, at), vector{}, p, step, table{}, vector{}, table{}, steps)
		}
	}
}

func TestPD2TooGreatInTheSecondProduct(t *testing.T) {
	for i := range 6 {
		step := with(ones(), place{i, i, 2 * unit})
		wantGreat(t, call("second product", i), vector{}, with(table{}, place{i, i, 1 << 60}), step, table{}, vector{}, with(table{}, place{i, i, top}), alone(secondProduct))
		wantGreat(t, call("second product", i), vector{}, with(table{}, place{i, i, 1<<61 - 1}), step, table{}, vector{}, with(table{}, place{i, i, top}), alone(secondProduct))
		wantGreat(t, call("second product", i), vector{}, with(table{}, place{i, i, 1<<60 - 1}), step, table{}, vector{}, with(table{}, place{i, i, 1<<62 - 4}), none)
		j := (i + 2) % 6
		step = with(step, place{j, j, -2 * unit})
		wantGreat(t, call("second product", i, j), vector{}, both(table{}, place{i, j, 1 << 60}), step, table{}, vector{}, both(table{}, place{i, j, -top}), alone(secondProduct))
		wantGreat(t, call("second product", i, j), vector{}, both(table{}, place{i, j, -1 << 60}), step, table{}, vector{}, both(table{}, place{i, j, top}), alone(secondProduct))
		wantGreat(t, call("second product", i, j), vector{}, both(table{}, place{i, j, 1<<60 - 1}), step, table{}, vector{}, both(table{}, place{i, j, 4 - 1<<62}), none)
	}
}

func TestPD2TooGreatWithNoise(t *testing.T) {
	for _, c := range []struct {
		n, noise, want int64
		great          bool
	}{
		{top, 1, top, true}, {top, 0, top, false}, {top, -1, top - 1, false}, {top - 1, 1, top, false}, {top - 1, 2, top, true}, {top, top, top, true}, {top, -top, 0, false}, {0, top, top, false}, {0, top + 1, top, true}, {0, most, top, true}, {1, most, top, true}, {top, most, top, true},
		{top, least, -top, true}, {top, least + 1, -top, true}, {top, least + 2, -top, false}, {top, least + 3, 1 - top, false}, {0, least, -top, true}, {0, -top, -top, false}, {0, -top - 1, -top, true},
	} {
		steps := none
		steps[withNoise] = c.great
		for i := range 6 {
			for j := range 6 {
				want := c.want
				if i == j {
					want = max(want, 0)
				}
				wantGreat(t, call("noise", i, j, c.n, c.noise), vector{}, both(table{}, place{i, j, c.n}), ones(), both(table{}, place{i, j, c.noise}), vector{}, both(table{}, place{i, j, want}), steps)
				if i != j && c.noise != least {
					wantGreat(t, call("noise", i, j, -c.n, -c.noise), vector{}, both(table{}, place{i, j, -c.n}), ones(), both(table{}, place{i, j, -c.noise}), vector{}, both(table{}, place{i, j, -c.want}), steps)
				}
			}
		}
	}
	// Of two numbers that are not the same turned one alone is bounded, ahead of the middle.
	wantGreat(t, "one side", vector{}, both(table{}, place{0, 1, top}), ones(), with(table{}, place{0, 1, 5}, place{1, 0, -5}), vector{}, both(table{}, place{0, 1, top - 3}), alone(withNoise))
	wantGreat(t, "both sides", vector{}, both(table{}, place{0, 1, top}), ones(), with(table{}, place{1, 0, -1}), vector{}, both(table{}, place{0, 1, top - 1}), none)
}

// All steps at once, with all numbers as great as they go: a step and a noise may have any of 64 bits.
func TestPD2NumbersAsFarAsTheyGo(t *testing.T) {
	numbers := []int64{0, 1, -1, unit, -unit, 2 * unit, top, -top, top + 1, -top - 1, most, least, least + 1}
	states := goodStates()
	for _, a := range numbers {
		for _, b := range numbers {
			for i := 0; i < len(states); i += 1 + i/8 {
				s := states[i]
				p := tableOf(s.P)
				checkNext(t, s.X, p, filled(a), filled(b))
				checkNext(t, s.X, p, with(ones(), place{i % 6, (i / 6) % 6, a}), with(table{}, place{(i / 2) % 6, i % 6, b}))
				checkNext(t, s.X, p, with(table{}, place{i % 6, i % 5, a}, place{i % 4, i % 6, b}), table{})
			}
		}
	}
}

// Numbers of all sizes; each step is too great alone, but the last, which never is behind one that is bounded.
func TestPD2OfRandomNumbers(t *testing.T) {
	r := rand.New(rand.NewSource(5))
	count := map[[allSteps]bool]int{}
	for range 12000 {
		x, _ := randomState(r, 1+r.Intn(62))
		_, p := randomState(r, 1+r.Intn(62))
		step, noise := randomTable(r, 1+r.Intn(40)), randomTable(r, 1+r.Intn(63))
		if r.Intn(4) == 0 {
			step = randomTable(r, 1+r.Intn(63))
		}
		if r.Intn(8) == 0 {
			noise[r.Intn(6)][r.Intn(6)] = beyond[r.Intn(len(beyond))]
		}
		count[checkNext(t, x, p, step, noise)]++
	}
	for _, steps := range [][allSteps]bool{none, alone(stepX), alone(firstProduct), alone(secondProduct), alone(withNoise)} {
		if count[steps] < 50 {
			t.Errorf("just %d with %v too great", count[steps], steps)
		}
	}
	for steps, n := range count {
		if steps[madeEven] {
			t.Errorf("%d times the middle was too great", n)
		}
	}
}

// Steps and noises of layer 11, of states as a radar sees them, and of much greater ones.
func TestPD2OfModels(t *testing.T) {
	r := rand.New(rand.NewSource(6))
	for k := range 8000 {
		m := randomModel(r)
		dt := 1 + r.Int63n(1<<26)>>r.Intn(26)
		step, noise := modelOf(t, m, dt)
		bits := 40
		if k%4 == 0 {
			bits = 62
		}
		x, p := randomState(r, bits)
		checkNext(t, x, p, step, noise)
	}
	for _, kind := range []int{model.Still, model.Pushed, model.Left, model.Right} {
		for _, dt := range []int64{1, 2, unit - 1, unit, 4 * unit, 1<<26 - 1, 1 << 26} {
			for _, rate := range []int64{1 << 20, 1<<28 - 1, 1 << 28} {
				m := model.Model{Kind: kind, Rate: rate, Noise: 1 << 30}
				if kind < model.Left {
					m.Rate = 0
				}
				step, noise := modelOf(t, m, dt)
				x, p := randomState(r, 40)
				checkNext(t, x, p, step, noise)
				checkNext(t, allOf(top), filled(top), step, noise)
				checkNext(t, allOf(-top), hollow(filled(-top)), step, noise)
			}
		}
	}
}

// P3: a vector that a model's matrix steps is no farther off what that makes of it exactly than half a last bit.
func TestP3HalfALastBit(t *testing.T) {
	r := rand.New(rand.NewSource(7))
	for range 8000 {
		step, noise := modelOf(t, randomModel(r), 1+r.Int63n(1<<26)>>r.Intn(26))
		x, p := randomState(r, 40)
		got, over, err := predict.Next(stateOf(x, p), matOf(step), matOf(noise))
		if err != nil {
			t.Fatal(err)
		}
		for i, n := range got.X {
			exact := summed(step[i][:], x[:])
			off := exact.Sub(new(big.Int).Lsh(big.NewInt(n), 20), exact)
			if !over && off.CmpAbs(big.NewInt(unit/2)) > 0 {
				t.Errorf("%v, %v: %d is %v off", x, step, n, off)
			}
		}
	}
}
