package gate_test

import (
	"math/rand"
	"slices"
	"testing"

	"radome/gate"
	"radome/polar"
	"radome/predict"
)

// handed is all that the calls are given: both lists are pieces of a room, with others ahead of them and behind.
type handed struct {
	states []predict.State
	seen   []polar.Seen

	l      []predict.State
	p      []polar.Seen
	within int64
}

// laid is a handed with its lists as pieces of rooms.
func laid(l []predict.State, p []polar.Seen, within int64) handed {
	h := handed{within: within}
	h.states = slices.Concat(states()[:1], l, states()[1:3])
	h.seen = slices.Concat(spots()[:1], p, spots()[1:3])
	h.l, h.p = h.states[1:1+len(l)], h.seen[1:1+len(p)]
	return h
}

// wantAsItWas asks that nothing is changed, spare room too.
func (h handed) wantAsItWas(t *testing.T, was handed) {
	t.Helper()
	if !slices.Equal(h.states, was.states) || !slices.Equal(h.seen, was.seen) {
		t.Fatalf("what was handed in was changed: %v, now %v", was, h)
	}
}

// answers is what all calls answer.
type answers struct {
	far        int64
	near, over bool
	pairs      [][]int
	pairsOver  bool
	nearest    []int
	errs       [3]error
}

// copied are the same lists in other memory.
func copied(l [][]int) [][]int {
	var out [][]int
	for _, row := range l {
		out = append(out, slices.Clone(row))
	}
	return out
}

// spoil fills lists and their spare room with others: that they are nobody else's.
func spoil(l [][]int) {
	for _, row := range l {
		row = row[:cap(row)]
		for i := range row {
			row[i] = 77
		}
	}
	l = l[:cap(l)]
	for i := range l {
		l[i] = []int{78}
	}
}

// ask asks all calls, and asks that what was handed in is as it was after each.
func (h handed) ask(t *testing.T) answers {
	t.Helper()
	was := handed{states: slices.Clone(h.states), seen: slices.Clone(h.seen)}
	var out answers
	s, p := h.states[len(h.l)], h.seen[len(h.p)] // the last ones, if there are any
	out.far, out.near, out.over, out.errs[0] = gate.Gate(s, p, h.within)
	h.wantAsItWas(t, was)
	pairs, over, err := gate.Pairs(h.l, h.p, h.within)
	out.pairs, out.pairsOver, out.errs[1] = copied(pairs), over, err
	h.wantAsItWas(t, was)
	spoil(pairs)
	h.wantAsItWas(t, was)
	nearest, err := gate.Nearest(h.l, h.p, h.within)
	out.nearest, out.errs[2] = slices.Clone(nearest), err
	h.wantAsItWas(t, was)
	spoil([][]int{nearest})
	h.wantAsItWas(t, was)
	return out
}

func (a answers) isSame(b answers) bool {
	return a.far == b.far && a.near == b.near && a.over == b.over && areSame(a.pairs, b.pairs) && a.pairsOver == b.pairsOver && slices.Equal(a.nearest, b.nearest) && a.errs == b.errs
}

// anything is what may be, or may not.
func anything(r *rand.Rand, badStates []predict.State, badPlaces []polar.Seen) handed {
	l, p := randomAll(r, r.Intn(6), r.Intn(6))
	within := randomMost(r)
	switch r.Intn(8) {
	case 0:
		l = append(l, oneOf(r, badStates))
	case 1:
		p = append(p, oneOf(r, badPlaces))
	case 2:
		within = oneOf(r, wrongMosts())
	case 3:
		l = slices.Repeat(append(l, sure(0, 0)), 66)[:60+r.Intn(7)]
	case 4:
		p = slices.Repeat(append(p, exact(0, 0)), 66)[:60+r.Intn(7)]
	}
	return laid(l, p, within)
}

// P9, and the first of the chapter's rules: what is handed in is as it was after each call, spare room too, no answer shares memory with it, and two answers of the same are the same.
func TestP9SameAnswersAndNothingChanged(t *testing.T) {
	r := rand.New(rand.NewSource(9))
	badStates, badPlaces := wrongStates(), wrongPlaces()
	for range 1500 {
		h := anything(r, badStates, badPlaces)
		first := h.ask(t)
		if second := h.ask(t); !first.isSame(second) {
			t.Fatalf("%v: %v, then %v", h, first, second)
		}
	}
}

// The same is answered again, whatever was asked for in between.
func TestP9NothingIsKept(t *testing.T) {
	badStates, badPlaces := wrongStates(), wrongPlaces()
	var first []answers
	for round := range 2 {
		r := rand.New(rand.NewSource(10))
		for i := range 800 {
			h := anything(r, badStates, badPlaces)
			got := h.ask(t)
			if round == 0 {
				first = append(first, got)
			} else if !got.isSame(first[i]) {
				t.Fatalf("%v: %v, then %v", h, first[i], got)
			}
		}
	}
}

// An answer is its own: what is done to it, or to what was handed in, is seen in no other, nor is what is done to one list of it in another one.
func TestP9AnAnswerIsItsOwn(t *testing.T) {
	l, p := slices.Repeat([]predict.State{known(0, 0, unit, 0, unit)}, 9), slices.Repeat([]polar.Seen{exact(unit, 0)}, 9)
	for many := range 10 {
		for count := range 10 {
			var want [][]int
			for range many {
				want = append(want, listed(0, count))
			}
			first, _, _ := gate.Pairs(l[:many], p[:count], widest)
			second, _, _ := gate.Pairs(l[:many], p[:count], widest)
			spoil(second)
			if !areSame(first, want) {
				t.Fatalf("%v; want %v", first, want)
			}
			for i, row := range first { // one by one: those behind are still as they were
				if !areSame(first[i:], want[i:]) {
					t.Fatalf("%v; want %v behind %d", first, want, i)
				}
				spoil([][]int{row})
			}
			wantPairs(t, l[:many], p[:count], widest, false, want...)
			near, _ := gate.Nearest(l[:many], p[:count], widest)
			other, _ := gate.Nearest(l[:many], p[:count], widest)
			said := slices.Clone(near)
			spoil([][]int{other})
			if !slices.Equal(near, said) {
				t.Fatalf("%v, then %v", said, near)
			}
		}
	}
	first, _, _ := gate.Pairs(l, p, widest)
	near, _ := gate.Nearest(l, p, widest)
	clear(l)
	clear(p)
	if !areSame(first, slices.Repeat([][]int{listed(0, 9)}, 9)) || !slices.Equal(near, make([]int, 9)) {
		t.Errorf("%v, %v", first, near)
	}
}

// All at once: the calls keep nothing that another one could see.
func TestP9ManyAtOnce(t *testing.T) {
	done := make(chan bool)
	for range 8 {
		go func() {
			defer func() { done <- true }()
			for range 50 {
				wantPairs(t, states(), spots(), widest, false, []int{0, 1, 2, 4, 5}, []int{0, 4, 5}, []int{3}, []int{0, 2, 4})
				wantNearest(t, states(), spots(), widest, 2, 5, 3, 2)
			}
		}()
	}
	for range 8 {
		<-done
	}
}
