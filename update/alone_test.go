package update_test

import (
	"math/rand"
	"testing"

	"radome/ldl"
	"radome/mat"
	"radome/polar"
	"radome/predict"
	"radome/update"
)

// handed is all that the calls are given.
type handed struct {
	s    predict.State
	seen polar.Seen
	gap  update.Gap
}

// answers is what all calls answer.
type answers struct {
	gap  update.Gap
	far  int64
	next predict.State
	over [3]bool
	errs [3]error
}

func (h *handed) ask() answers {
	var out answers
	out.gap, out.over[0], out.errs[0] = update.Of(h.s, h.seen)
	out.far, out.over[1], out.errs[1] = update.Far(h.gap)
	out.next, out.over[2], out.errs[2] = update.Next(h.s, h.seen)
	return out
}

// anything is what may be, or may not.
func anything(r *rand.Rand, states []predict.State, places []polar.Seen, factors []ldl.Factors) handed {
	bits := 1 + r.Intn(62)
	h := handed{s: stateOf(randomState(r, bits)), seen: randomSeen(r, bits)}
	h.gap = update.Gap{V: [2]int64{random(r, 62), int64(r.Uint64())}, F: pair{random(r, 62), 1 + above(r, 40), 1 + above(r, 60)}.factors()}
	switch r.Intn(6) {
	case 0:
		h.s = states[r.Intn(len(states))]
	case 1:
		h.seen = places[r.Intn(len(places))]
	case 2:
		h.gap.F = factors[r.Intn(len(factors))]
	}
	return h
}

// P9: what is handed in is as it was after each call, and the same is answered again, whatever was asked for in between.
func TestP9SameAnswersAndNothingChanged(t *testing.T) {
	states, places, factors := wrongStates(), wrongPlaces(), wrongFactors()
	var first []answers
	for round := range 2 {
		r := rand.New(rand.NewSource(11))
		for i := range 4000 {
			h := anything(r, states, places, factors)
			kept := h
			got := h.ask()
			if h != kept {
				t.Fatalf("%v: now %v", kept, h)
			}
			if round == 0 {
				first = append(first, got)
			} else if got != first[i] {
				t.Fatalf("%v: %v, then %v", h, first[i], got)
			}
		}
	}
}

// What is answered is its own: what is done to it is seen nowhere else.
func TestP9AnAnswerIsItsOwn(t *testing.T) {
	s, seen := stateOf(someX, someP()), someSeen
	keptS, keptSeen := s, seen
	state := func() predict.State {
		out, _, _ := update.Next(s, seen)
		return out
	}
	gap := func() update.Gap {
		out, _, _ := update.Of(s, seen)
		return out
	}
	one, oneGap := state(), gap()
	other, otherGap := state(), gap()
	wasState, wasGap := one, oneGap
	other.X, other.P = vector{7, 7}, mat.Mat{Rows: 1, A: [36]int64{1, 2, 3}}
	otherGap.V, otherGap.F = [2]int64{1, 2}, ldl.Factors{N: 1}
	if one != wasState || oneGap != wasGap || state() != wasState || gap() != wasGap || s != keptS || seen != keptSeen {
		t.Errorf("%v and %v, then %v and %v", wasState, wasGap, one, oneGap)
	}
}
