package predict_test

import (
	"testing"

	"radome/mat"
	"radome/predict"
)

// wantNoNext asks for the error of a wrong argument, and for nothing beside it.
func wantNoNext(t *testing.T, s predict.State, step, noise mat.Mat) {
	t.Helper()
	got, over, err := predict.Next(s, step, noise)
	wantWrong(t, call("Next", s, step, noise), got, over, err)
}

func TestPD2OfWrongStates(t *testing.T) {
	eye, great := matOf(ones()), matOf(filled(most))
	wrong := mat.Mat{Rows: 5, Cols: 6}
	for _, s := range wrongStates() {
		for _, step := range []mat.Mat{eye, {Rows: 6, Cols: 6}, great, wrong, {}} {
			for _, noise := range []mat.Mat{{Rows: 6, Cols: 6}, great, wrong, {}} {
				wantNoNext(t, s, step, noise)
			}
		}
	}
}

func TestPD2OfWrongStepsAndNoises(t *testing.T) {
	eye, nothing := matOf(ones()), mat.Mat{Rows: 6, Cols: 6}
	for _, s := range []predict.State{stateOf(vector{1, 2, 3, 4, 5, 6}, ones()), stateOf(vector{}, table{}), stateOf(allOf(top), filled(top))} {
		if got, _, err := predict.Next(s, eye, nothing); got != s || err != nil {
			t.Fatalf("Next(%v): %v, %v", s, got, err)
		}
		for _, m := range wrongMatrices() {
			wantNoNext(t, s, m, nothing)
			wantNoNext(t, s, eye, m)
			wantNoNext(t, s, m, m)
		}
	}
}
