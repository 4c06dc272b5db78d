package chance_test

import (
	"math/rand"
	"slices"
	"testing"

	"radome/chance"
)

// handed is all that the calls are given; the lists are pieces of one room.
type handed struct {
	room       []int64
	many       int
	floor      int64
	weights, l []int64
	rows       [][]int64
}

// answers is what all calls answer; each answer is filled with other numbers, spare room too, once it is told: that it is nobody else's.
func (h handed) answers() []any {
	var out []any
	add := func(l []int64, err error) {
		for _, n := range l {
			out = append(out, n)
		}
		out = append(out, len(l), err)
		spare := l[:cap(l)]
		for i := range spare {
			spare[i] = 77
		}
	}
	add(chance.Even(h.many))
	add(chance.Of(h.weights, h.floor))
	add(chance.Of(h.l, 0))
	out = append(out, chance.Check(h.l, h.floor), chance.Check(h.l, 0))
	add(chance.Mix(h.l, h.rows))
	place, err := chance.Most(h.weights)
	return append(out, place, err)
}

// anything is what may be, or may not.
func anything(r *rand.Rand, wrong [][]int64) handed {
	many := 1 + r.Intn(4)
	h := handed{many: r.Intn(7) - 1, floor: slices.Concat(floors, floors, wrongFloors)[r.Intn(2*len(floors)+len(wrongFloors))]}
	piece := func(l []int64) []int64 {
		if r.Intn(30) == 0 {
			l = wrong[r.Intn(len(wrong))]
		}
		from := len(h.room)
		h.room = append(append(h.room, l...), 5, 6, 7) // what stands behind a piece is its spare room
		return h.room[from : from+len(l)]
	}
	h.room = make([]int64, 0, 2000) // never moved, so that all pieces stay in it
	h.weights, h.l = piece(weighed(r, many)), piece(shared(r, many, 0))
	for range many {
		h.rows = append(h.rows, piece(shared(r, many, 0)))
	}
	switch r.Intn(12) {
	case 0:
		h.rows = h.rows[1:]
	case 1:
		h.rows[0] = h.rows[many-1] // they share memory
	case 2:
		h.weights = h.l
	}
	return h
}

// P9, and the first of the chapter's rules: what is handed in is as it was, spare room too, no answer shares memory with it, and two answers of the same are the same.
func TestP9SameAnswersAndNothingChanged(t *testing.T) {
	r := rand.New(rand.NewSource(10))
	wrong := slices.Concat(wrongChances(), wrongWeights())
	wrong = slices.DeleteFunc(wrong, func(l []int64) bool { return len(l) > 9 })
	for range 20000 {
		h := anything(r, wrong)
		kept, outer := slices.Clone(h.room), slices.Clone(h.rows)
		first := h.answers()
		if !slices.Equal(h.room, kept) {
			t.Fatalf("%v: what was handed in was changed: %v", kept, h.room)
		}
		for i := range outer {
			if len(h.rows[i]) != len(outer[i]) || len(outer[i]) > 0 && &h.rows[i][0] != &outer[i][0] {
				t.Fatalf("%v: the list of rows was changed", h)
			}
		}
		if second := h.answers(); !slices.Equal(first, second) {
			t.Fatalf("%v: %v, then %v", h, first, second)
		}
	}
}

// An answer is its own: what is done to it, or to what was handed in, is seen in no other.
func TestP9AnAnswerIsItsOwn(t *testing.T) {
	weights, l, rows := []int64{1, 2, 3}, []int64{one / 2, one / 4, one / 4}, itself(3)
	for name, ask := range map[string]func() ([]int64, error){
		"Even": func() ([]int64, error) { return chance.Even(3) },
		"Of":   func() ([]int64, error) { return chance.Of(weights, 5) },
		"Mix":  func() ([]int64, error) { return chance.Mix(l, rows) },
	} {
		kept, _ := ask()
		was := slices.Clone(kept)
		other, _ := ask()
		clear(other[:cap(other)])
		again, err := ask()
		wantIs(t, name, again, err, was...)
		wantIs(t, name, kept, nil, was...)
	}
	got, err := chance.Mix(l, rows)
	clear(l)
	clear(rows[0])
	wantIs(t, "Mix", got, err, one/2, one/4, one/4)
}

// Nil and the empty list are the same.
func TestP9NilIsEmpty(t *testing.T) {
	for _, none := range [][]int64{nil, {}, make([]int64, 0, 9)} {
		got, err := chance.Of(none, 0)
		wantWrong(t, "Of none", got, err, 1)
		wantError(t, "Check none", chance.Check(none, 0), 1)
		for _, rows := range [][][]int64{nil, {}, {none}} {
			got, err = chance.Mix(none, rows)
			wantWrong(t, "Mix none", got, err, 1)
			got, err = chance.Mix([]int64{one}, rows)
			wantWrong(t, "Mix by none", got, err, 1)
		}
		_, err = chance.Most(none)
		wantError(t, "Most of none", err, 1)
	}
}
