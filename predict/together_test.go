package predict_test

import (
	"math/rand"
	"testing"

	"radome/mat"
	"radome/model"
	"radome/predict"
)

// wantUnchanged asks that a step of ones and no noise leave a state as it was.
func wantUnchanged(t *testing.T, s predict.State) {
	t.Helper()
	eye, err := mat.Eye(6)
	if err != nil || eye != matOf(ones()) {
		t.Fatal(eye, err)
	}
	got, over, err := predict.Next(s, eye, mat.Mat{Rows: 6, Cols: 6})
	wantState(t, call("Next", s), got, over, err, s, false)
	if !predict.Same(got, s) {
		t.Errorf("Next(%v): %v is not the same", s, got)
	}
}

func TestPD3AStepOfOnesChangesNothing(t *testing.T) {
	for _, s := range goodStates() {
		wantUnchanged(t, s)
	}
	for _, n := range unsures {
		for _, m := range places {
			s, err := predict.Blank(m, -m, m, -m, n, n, n)
			if err != nil {
				t.Fatal(err)
			}
			wantUnchanged(t, s)
		}
	}
	r := rand.New(rand.NewSource(8))
	for i := range 8000 {
		wantUnchanged(t, stateOf(randomState(r, 1+i%62)))
	}
}

// wantEven asks for a state that may be, whose P is the same turned, and the same made even.
func wantEven(t *testing.T, s predict.State) {
	t.Helper()
	other, err := mat.Turn(s.P)
	even, over, err2 := mat.Even(s.P)
	if other != s.P || even != s.P || over || err != nil || err2 != nil {
		t.Errorf("%v: not even", s)
	}
	if l := tableOf(s.P); turned(l) != l {
		t.Errorf("%v: not even", s)
	}
	if err := predict.Check(s); err != nil {
		t.Errorf("Check(%v): %v", s, err)
	}
}

// P stays even, whatever the step and the noise: the noise need not be.
func TestPD3PStaysEven(t *testing.T) {
	r := rand.New(rand.NewSource(9))
	for range 8000 {
		s := stateOf(randomState(r, 1+r.Intn(62)))
		got, _, err := predict.Next(s, matOf(randomTable(r, 1+r.Intn(63))), matOf(randomTable(r, 1+r.Intn(63))))
		if err != nil {
			t.Fatal(err)
		}
		wantEven(t, got)
	}
	for _, s := range goodStates() {
		got, _, err := predict.Next(s, matOf(filled(most)), matOf(filled(least)))
		if err != nil {
			t.Fatal(err)
		}
		wantEven(t, got)
	}
}

// So it does step by step, by all models in turn; each step may be handed what the one ahead of it answered.
func TestPD3PStaysEvenStepByStep(t *testing.T) {
	r := rand.New(rand.NewSource(10))
	for range 30 {
		s, err := predict.Blank(random(r, 40), random(r, 40), random(r, 30), random(r, 30), 1<<33, 1<<33, 1<<25)
		if err != nil {
			t.Fatal(err)
		}
		for range 60 {
			step, noise := modelOf(t, randomModel(r), 1+r.Int63n(1<<26)>>r.Intn(26))
			checkNext(t, s.X, tableOf(s.P), step, noise)
			if s, _, err = predict.Next(s, matOf(step), matOf(noise)); err != nil {
				t.Fatal(err)
			}
			wantEven(t, s)
		}
	}
}

// What is still goes on for one time and another as for both together; x and y do not hang on each other.
func TestPD2TimesTogether(t *testing.T) {
	s, err := predict.Blank(5*unit, -3*unit, 10*unit, -20*unit, 100*unit, 4*unit, unit)
	if err != nil {
		t.Fatal(err)
	}
	still := model.Model{Kind: model.Still, Noise: unit}
	once, _ := modelOf(t, still, 2*unit)
	twice, _ := modelOf(t, still, 4*unit)
	first, _, err := predict.Next(s, matOf(once), matOf(table{}))
	second, _, err2 := predict.Next(first, matOf(once), matOf(table{}))
	together, _, err3 := predict.Next(s, matOf(twice), matOf(table{}))
	if err != nil || err2 != nil || err3 != nil || second != together {
		t.Errorf("%v, and %v together; %v, %v, %v", second, together, err, err2, err3)
	}
}
