package update_test

import (
	"math/rand"
	"testing"

	"radome/mat"
	"radome/polar"
	"radome/predict"
)

// wrongSizes are rows and columns other than six.
func wrongSizes() [][2]int {
	out := [][2]int{{4, 9}, {9, 4}, {36, 1}, {1, 36}, {-6, -6}, {-6, 6}, {6, -6}, {1<<32 + 6, 6}, {6, 1<<32 + 6}, {most, most}, {least, least}, {6, most}, {least, 6}}
	for rows := -1; rows <= 8; rows++ {
		for cols := -1; cols <= 8; cols++ {
			if rows != 6 || cols != 6 {
				out = append(out, [2]int{rows, cols})
			}
		}
	}
	return out
}

// wrongStates are such as may not be, by each of layer 12's reasons: P may not be, or has other rows and columns than six, is not the same turned, has a number below 0 on its diagonal, or one is beyond MaxTop's size.
func wrongStates() []predict.State {
	out := []predict.State{{}, {X: someX}}
	for _, size := range wrongSizes() {
		m := mat.Mat{Rows: size[0], Cols: size[1]}
		out = append(out, predict.State{X: someX, P: m})
		m.A = matOf(someP()).A
		out = append(out, predict.State{X: someX, P: m})
		if eye, err := mat.Eye(size[0]); err == nil && size[0] == size[1] {
			out = append(out, predict.State{X: someX, P: eye})
		}
	}
	for i := range 6 {
		for _, n := range beyond {
			x := someX
			x[i] = n
			out = append(out, stateOf(x, someP()))
		}
		for j := range 6 {
			out = append(out, wrongAt(i, j)...)
		}
	}
	return out
}

// wrongAt are states with one number of P that may not be.
func wrongAt(i, j int) []predict.State {
	var out []predict.State
	for _, n := range beyond {
		out = append(out, stateOf(someX, both(someP(), place{i, j, n})), stateOf(someX, with(someP(), place{i, j, n})))
	}
	n := someP()[i][j]
	others := []int64{n - 1, n + 1, -n - 1, n ^ 1<<40}
	if i == j {
		others = []int64{-1, -2, -unit, -top}
	}
	for _, n := range others {
		out = append(out, stateOf(someX, with(someP(), place{i, j, n})))
	}
	return out
}

// wrongPlaces are such as may not be: by a number beyond MaxTop's size at each of the five places, or by XX or YY below 0.
func wrongPlaces() []polar.Seen {
	var out []polar.Seen
	for _, base := range []polar.Seen{someSeen, {}, {X: top, Y: -top, XX: top, YY: top, XY: -top}} {
		numbers := func(seen *polar.Seen) []*int64 {
			return []*int64{&seen.X, &seen.Y, &seen.XX, &seen.YY, &seen.XY}
		}
		for k := range 5 {
			wrong := beyond
			if k == 2 || k == 3 {
				wrong = append([]int64{-1, -2, -unit, 1 - top, -top}, beyond...)
			}
			for _, n := range wrong {
				seen := base
				*numbers(&seen)[k] = n
				out = append(out, seen)
			}
		}
	}
	return append(out, polar.Seen{XX: -1, YY: -1}, polar.Seen{X: most, Y: most, XX: most, YY: most, XY: most}, polar.Seen{X: least, Y: least, XX: least, YY: least, XY: least})
}

func TestUD1AndUD2OfAWrongState(t *testing.T) {
	for _, s := range wrongStates() {
		for _, seen := range []polar.Seen{someSeen, {XX: unit, YY: unit}, {X: top, Y: -top, XX: top, YY: top}} {
			wantNothing(t, s, seen, 1)
		}
	}
}

func TestUD1AndUD2OfAWrongPlace(t *testing.T) {
	for _, seen := range wrongPlaces() {
		for _, s := range []predict.State{stateOf(someX, someP()), stateOf(vector{}, ones()), stateOf(vector{top, top, top, -top, top, top}, onDiagonal(top, top, top, top, top, top))} {
			wantNothing(t, s, seen, 1)
		}
	}
}

// Both wrong at once; and where there are no factors as well, ErrArg comes first.
func TestUD1AndUD2WhichErrorComesFirst(t *testing.T) {
	for _, s := range wrongStates() {
		wantNothing(t, s, polar.Seen{X: top + 1, XX: -1}, 1)
		wantNothing(t, s, polar.Seen{}, 1)
		wantNothing(t, s, polar.Seen{XX: unit, YY: unit, XY: top}, 1)
	}
	for _, seen := range wrongPlaces() {
		wantNothing(t, predict.State{}, seen, 1)
		wantNothing(t, stateOf(vector{}, table{}), seen, 1)
		wantNothing(t, stateOf(vector{}, both(ones(), place{0, 3, top})), seen, 1)
	}
	wantNothing(t, stateOf(vector{}, table{}), polar.Seen{}, 8)
}

// Beside ErrNone nothing is told of what was too great.
func TestUD1AndUD2NothingBesideErrNone(t *testing.T) {
	for _, p := range []table{{}, onDiagonal(top), onDiagonal(0, top, top, top, top, top), both(onDiagonal(top, 0, 0, top), place{0, 3, top})} {
		for _, x := range []vector{{}, {top, 0, 0, top}, {-top, 0, 0, -top}} {
			wantNothing(t, stateOf(x, p), polar.Seen{X: top, Y: top}, 8)
			wantNothing(t, stateOf(x, p), polar.Seen{X: -top, Y: -top}, 8)
		}
	}
	wantNothing(t, stateOf(vector{}, both(onDiagonal(top, 0, 0, top), place{0, 3, top})), polar.Seen{X: 1, XX: top, YY: top}, 8)
}

// The same by chance: what may be, with one number made wrong.
func TestUD1AndUD2OfOneWrongNumber(t *testing.T) {
	r := rand.New(rand.NewSource(10))
	states, places := wrongStates(), wrongPlaces()
	for range 4000 {
		x, p := randomState(r, 1+r.Intn(62))
		seen := randomSeen(r, 1+r.Intn(62))
		wantNothing(t, states[r.Intn(len(states))], seen, 1)
		wantNothing(t, stateOf(x, p), places[r.Intn(len(places))], 1)
		p[r.Intn(6)][r.Intn(6)] ^= least
		if i := r.Intn(6); p[i][i] >= 0 {
			p[i][i] = -1 - p[i][i]>>1
		}
		wantNothing(t, stateOf(x, p), seen, 1)
	}
}
