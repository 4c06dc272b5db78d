package predict_test

import (
	"math/rand"
	"testing"

	"radome/predict"
)

// places are numbers that x, y, vx and vy may be.
var places = []int64{0, 1, -1, unit, -10 * unit, 1 << 40, top - 1, top, 1 - top, -top}

// unsures are numbers that near, fast and push may be.
var unsures = []int64{1, 2, unit, 100 * unit, 1 << 40, top - 1, top}

// wrongUnsures are such as they may not be.
var wrongUnsures = append([]int64{0, -1, -2, -unit, -top, 1 - top}, beyond...)

// asked are the seven arguments of Blank.
type asked [7]int64

func (a asked) blank() (predict.State, error) {
	return predict.Blank(a[0], a[1], a[2], a[3], a[4], a[5], a[6])
}

// wantBlank asks for what PD1 says, which may be.
func wantBlank(t testing.TB, a asked) {
	t.Helper()
	x, y, vx, vy, near, fast, push := a[0], a[1], a[2], a[3], a[4], a[5], a[6]
	want := stateOf(vector{x, vx, 0, y, vy, 0}, onDiagonal(near, fast, push, near, fast, push))
	got, err := a.blank()
	wantState(t, call("Blank", a), got, false, err, want, false)
	if err := predict.Check(got); err != nil {
		t.Errorf("Blank(%v): %v: %v", a, got, err)
	}
}

// wantNoBlank asks for the error of a wrong argument, and for nothing beside it.
func wantNoBlank(t testing.TB, a asked) {
	t.Helper()
	got, err := a.blank()
	wantWrong(t, call("Blank", a), got, false, err)
}

func TestPD1Blank(t *testing.T) {
	got, err := predict.Blank(1, 2, 3, 4, 5, 6, 7)
	want := predict.State{X: [6]int64{1, 3, 0, 2, 4, 0}}
	want.P.Rows, want.P.Cols = 6, 6
	want.P.A[0], want.P.A[7], want.P.A[14], want.P.A[21], want.P.A[28], want.P.A[35] = 5, 6, 7, 5, 6, 7
	wantState(t, "Blank(1, 2, 3, 4, 5, 6, 7)", got, false, err, want, false)
}

func TestPD1BlankOfEdges(t *testing.T) {
	base := asked{unit, -2 * unit, 3 * unit, -4 * unit, 5 * unit, 6 * unit, 7 * unit}
	wantBlank(t, base)
	for _, n := range places {
		for _, m := range unsures {
			wantBlank(t, asked{n, n, n, n, m, m, m})
			for i := range 4 {
				for j := 4; j < 7; j++ {
					a := base
					a[i], a[j] = n, m
					wantBlank(t, a)
				}
			}
		}
	}
	r := rand.New(rand.NewSource(4))
	for range 20000 {
		var a asked
		for i := range a {
			if a[i] = random(r, 61); i >= 4 {
				a[i] = 1 + max(a[i], -a[i])
			}
		}
		wantBlank(t, a)
	}
}

func TestPD1BlankOfWrongNumbers(t *testing.T) {
	for _, base := range []asked{{unit, -2 * unit, 3 * unit, -4 * unit, 5 * unit, 6 * unit, 7 * unit}, {top, -top, top, -top, 1, top, 1}, {0, 0, 0, 0, 1, 1, 1}} {
		wantBlank(t, base)
		for i := range base {
			wrong := beyond
			if i >= 4 {
				wrong = wrongUnsures
			}
			for _, n := range wrong {
				a := base
				a[i] = n
				wantNoBlank(t, a)
				for j := range base {
					a[j] = least // two wrong ones at once
					wantNoBlank(t, a)
				}
			}
		}
	}
	wantNoBlank(t, asked{})
}
