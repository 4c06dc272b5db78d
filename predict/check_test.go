package predict_test

import (
	"math/rand"
	"testing"

	"radome/api"
	"radome/mat"
	"radome/predict"
)

// goodStates are such as may be: noughts, a diagonal of noughts, MaxTop's size on both sides at each place, and everywhere.
func goodStates() []predict.State {
	x := vector{5 * unit, -unit, 1, -7 * unit, 2 * unit, -1}
	p := both(onDiagonal(9, 8, 7, 6, 5, 4), place{0, 1, 3}, place{2, 5, -3}, place{3, 4, unit})
	out := []predict.State{
		stateOf(vector{}, table{}), stateOf(x, p), stateOf(x, table{}), stateOf(vector{}, p), stateOf(x, ones()),
		stateOf(x, hollow(filled(1))), stateOf(allOf(-top), hollow(filled(-top))), stateOf(allOf(top), hollow(filled(top))),
		stateOf(allOf(top), filled(top)), stateOf(allOf(-top), filled(top)), stateOf(allOf(1-top), filled(top-1)),
	}
	for i := range 6 {
		out = append(out, goodAt(x, p, i)...)
	}
	return out
}

// goodAt are states that may be, with numbers up to MaxTop's size on both sides at a part of X, and in a row of P.
func goodAt(x vector, p table, i int) []predict.State {
	var out []predict.State
	for _, n := range []int64{0, 1, -1, top - 1, top, 1 - top, -top} {
		x[i] = n
		out = append(out, stateOf(x, p), stateOf(x, table{}))
		for j := range 6 {
			if i != j || n >= 0 {
				at := place{i, j, n}
				out = append(out, stateOf(x, both(p, at)), stateOf(vector{}, both(table{}, at)))
			}
		}
	}
	return out
}

// wrongSizes are rows and columns other than six; some have 36 numbers all the same.
func wrongSizes() [][2]int {
	out := [][2]int{{4, 9}, {9, 4}, {12, 3}, {3, 12}, {18, 2}, {2, 18}, {36, 1}, {1, 36}, {-6, -6}, {-6, 6}, {6, -6}, {1<<32 + 6, 6}, {6, 1<<32 + 6}, {1 << 33, 1 << 33}, {most, most}, {least, least}, {6, most}, {least, 6}, {most, 6}, {6, least}}
	for rows := -1; rows <= 8; rows++ {
		for cols := -1; cols <= 8; cols++ {
			if rows != 6 || cols != 6 {
				out = append(out, [2]int{rows, cols})
			}
		}
	}
	return out
}

// wrongMatrices are such as may not be, or have not six rows and columns: without numbers, with those of ones, and with the most numbers that they may have.
func wrongMatrices() []mat.Mat {
	var out []mat.Mat
	for _, size := range wrongSizes() {
		empty := mat.Mat{Rows: size[0], Cols: size[1]}
		full := mat.Mat{Rows: size[0], Cols: size[1], A: matOf(ones()).A}
		out = append(out, empty, full)
		if mat.Check(empty) == nil {
			for i := range size[0] * size[1] {
				empty.A[i] = 1
			}
			out = append(out, empty)
		}
		if eye, err := mat.Eye(size[0]); err == nil && size[0] == size[1] {
			out = append(out, eye)
		}
	}
	return out
}

// wrongStates are such as may not be, by their P's size, by one number that is not the same turned, by one below 0 on the diagonal, or by one beyond MaxTop's size.
func wrongStates() []predict.State {
	x := vector{5 * unit, -unit, 1, -7 * unit, 2 * unit, -1}
	p := both(onDiagonal(9, 8, 7, 6, 5, 4), place{0, 1, 3}, place{2, 5, -3}, place{3, 4, unit})
	out := []predict.State{{}}
	for _, m := range wrongMatrices() {
		out = append(out, predict.State{P: m}, predict.State{X: x, P: m})
	}
	for _, l := range []table{p, {}, filled(top)} {
		for i := range 6 {
			for j := range 6 {
				out = append(out, wrongAt(x, l, i, j)...)
			}
			for _, n := range beyond {
				other := x
				other[i] = n
				out = append(out, stateOf(other, l))
			}
		}
	}
	return out
}

// wrongAt are states of which one number of P is wrong.
func wrongAt(x vector, l table, i, j int) []predict.State {
	var out []predict.State
	for _, n := range beyond {
		out = append(out, stateOf(x, both(l, place{i, j, n})), stateOf(x, with(l, place{i, j, n})))
	}
	others := []int64{-1, -2, -unit, 1 - top, -top}
	if i != j {
		others = []int64{l[i][j] - 1, 1 - l[i][j], -l[i][j] - 1, l[i][j] - 1<<32, l[i][j] ^ 1<<40}
	}
	for _, n := range others {
		out = append(out, stateOf(x, with(l, place{i, j, n})))
	}
	return out
}

func TestTheBoundIsMaxTop(t *testing.T) {
	if api.MaxTop != top || top != 4611686018427387903 {
		t.Errorf("MaxTop: %d", int64(api.MaxTop))
	}
}

func TestPD1CheckOfWhatMayBe(t *testing.T) {
	for _, s := range goodStates() {
		if err := predict.Check(s); err != nil {
			t.Errorf("Check(%v): %v", s, err)
		}
	}
	r := rand.New(rand.NewSource(1))
	for i := range 20000 {
		s := stateOf(randomState(r, 1+i%62))
		if err := predict.Check(s); err != nil {
			t.Errorf("Check(%v): %v", s, err)
		}
	}
}

func TestPD1CheckOfWhatMayNotBe(t *testing.T) {
	for _, s := range wrongStates() {
		wantArg(t, call("Check", s), predict.Check(s))
	}
}

// The same by chance: a state that may be, with one number made wrong in one of the ways.
func TestPD1CheckOfOneWrongNumber(t *testing.T) {
	r := rand.New(rand.NewSource(2))
	for k := range 20000 {
		x, p := randomState(r, 1+r.Intn(62))
		i, j := r.Intn(6), r.Intn(6)
		switch k % 4 {
		case 0:
			x[i] = beyond[r.Intn(len(beyond))]
		case 1:
			p = both(p, place{i, j, beyond[r.Intn(len(beyond))]})
		case 2:
			p[i][i] = -1 - max(0, random(r, 61))
		case 3:
			if j == i {
				j = (i + 1) % 6
			}
			p[i][j] ^= 1 << r.Intn(61)
		}
		s := stateOf(x, p)
		wantArg(t, call("Check", s), predict.Check(s))
	}
}

func TestPD1SameOfTheSame(t *testing.T) {
	for _, l := range [][]predict.State{goodStates(), wrongStates()} {
		for _, s := range l {
			other := s
			if !predict.Same(s, other) {
				t.Errorf("Same(%v, %v): false", s, other)
			}
		}
	}
}

// changed is s with each of its numbers, one at a time, changed by a bit.
func changed(s predict.State, bit int) []predict.State {
	var out []predict.State
	change := func(of func(s *predict.State)) {
		other := s
		of(&other)
		out = append(out, other)
	}
	for i := range s.X {
		change(func(s *predict.State) { s.X[i] ^= 1 << bit })
	}
	for i := range s.P.A {
		change(func(s *predict.State) { s.P.A[i] ^= 1 << bit })
	}
	change(func(s *predict.State) { s.P.Rows ^= 1 << bit })
	change(func(s *predict.State) { s.P.Cols ^= 1 << bit })
	return out
}

func TestPD1SameOfOneNumberApart(t *testing.T) {
	r := rand.New(rand.NewSource(3))
	states := []predict.State{{}, stateOf(vector{}, table{}), stateOf(allOf(top), filled(top)), stateOf(randomState(r, 40)), stateOf(randomState(r, 62))}
	for _, s := range states {
		for bit := range 64 {
			for _, other := range changed(s, bit) {
				if predict.Same(s, other) || predict.Same(other, s) {
					t.Errorf("Same(%v, %v): true", s, other)
				}
			}
		}
	}
}

func TestPD1SameOfTwo(t *testing.T) {
	l := goodStates()
	for i, a := range l {
		for j, b := range l {
			want := a.X == b.X && a.P.A == b.P.A
			if got := predict.Same(a, b); got != want || i == j && !got {
				t.Errorf("Same(%v, %v): %v", a, b, got)
			}
		}
	}
}
