package predict_test

import (
	"math/rand"
	"testing"

	"radome/mat"
	"radome/predict"
)

// handed is all that the calls are given.
type handed struct {
	s, other    predict.State
	step, noise mat.Mat
	a           asked
}

// answers is what all calls answer.
type answers struct {
	next, blank predict.State
	over, same  bool
	errs        [3]error
}

func (h *handed) ask() answers {
	var out answers
	out.errs[0] = predict.Check(h.s)
	out.next, out.over, out.errs[1] = predict.Next(h.s, h.step, h.noise)
	out.blank, out.errs[2] = h.a.blank()
	out.same = predict.Same(h.s, h.other)
	return out
}

// anything is what may be, or may not.
func anything(r *rand.Rand, states []predict.State, matrices []mat.Mat) handed {
	h := handed{s: stateOf(randomState(r, 1+r.Intn(62))), step: matOf(randomTable(r, 1+r.Intn(63))), noise: matOf(randomTable(r, 1+r.Intn(63)))}
	h.other = h.s
	for i := range h.a {
		h.a[i] = random(r, 63)
	}
	switch r.Intn(6) {
	case 0:
		h.s = states[r.Intn(len(states))]
	case 1:
		h.step = matrices[r.Intn(len(matrices))]
	case 2:
		h.noise = matrices[r.Intn(len(matrices))]
	case 3:
		h.other = states[r.Intn(len(states))]
	}
	return h
}

// P9: what is handed in is as it was after each call, and the same is answered again, whatever was asked for in between.
func TestP9SameAnswersAndNothingChanged(t *testing.T) {
	states, matrices := wrongStates(), wrongMatrices()
	var first []answers
	for round := range 2 {
		r := rand.New(rand.NewSource(11))
		for i := range 4000 {
			h := anything(r, states, matrices)
			kept := h
			got := h.ask()
			if h != kept {
				t.Fatalf("%v: now %v", kept, h)
			}
			if round == 0 {
				first = append(first, got)
			} else if got != first[i] {
				t.Fatalf("%v: %v, then %v", h, first[i], got)
			}
		}
	}
}

// A state that is answered is its own: what is done to it is seen nowhere else.
func TestP9AStateIsItsOwn(t *testing.T) {
	s := stateOf(vector{1, 2, 3, 4, 5, 6}, ones())
	kept := s
	for _, ask := range []func() (predict.State, error){
		func() (predict.State, error) {
			out, _, err := predict.Next(s, matOf(ones()), matOf(ones()))
			return out, err
		},
		func() (predict.State, error) { return predict.Blank(1, 2, 3, 4, 5, 6, 7) },
	} {
		one, _ := ask()
		was := one
		other, _ := ask()
		other.X, other.P = vector{7, 7}, mat.Mat{Rows: 1, A: [36]int64{1, 2, 3}}
		if again, err := ask(); one != was || again != was || s != kept || err != nil {
			t.Errorf("%v, then %v and %v, %v", was, one, again, err)
		}
	}
}
