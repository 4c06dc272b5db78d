package mix_test

import (
	"math/rand"
	"slices"
	"testing"

	"radome/mix"
	"radome/predict"
)

// handed is all that the calls are given; the chances and the rows are pieces of one room, the states of another.
type handed struct {
	room    []int64
	all     []predict.State
	l       []predict.State
	chances []int64
	rows    [][]int64
	to      int
}

// spoiled is what a list said, once the list and its spare room have been filled with others: that it is nobody else's.
func spoiled[T any](l []T, with T) []T {
	out := slices.Clone(l)
	spare := l[:cap(l)]
	for i := range spare {
		spare[i] = with
	}
	return out
}

// answers is what all calls answer.
type answers struct {
	shares, then []int64
	join         predict.State
	all          []predict.State
	over         [2]bool
	errs         [3]error
}

func (h handed) ask() answers {
	var out answers
	shares, err := mix.Shares(h.chances, h.rows, h.to)
	out.shares, out.errs[0] = spoiled(shares, 77), err
	out.join, out.over[0], out.errs[1] = mix.Join(h.l, h.chances)
	all, then, over, err := mix.All(h.l, h.chances, h.rows)
	out.all, out.then = spoiled(all, predict.State{X: allOf(77)}), spoiled(then, 77)
	out.over[1], out.errs[2] = over, err
	return out
}

func (a answers) same(b answers) bool {
	return slices.Equal(a.shares, b.shares) && slices.Equal(a.then, b.then) && a.join == b.join && slices.Equal(a.all, b.all) && a.over == b.over && a.errs == b.errs
}

// piece is a list as a part of a room, with spare room behind it.
func piece[T any](room *[]T, l []T, spare ...T) []T {
	from := len(*room)
	*room = append(append(*room, l...), spare...)
	return (*room)[from : from+len(l)]
}

// anything is what may be, or may not.
func anything(r *rand.Rand, states []predict.State, wrong [][]int64) handed {
	count := 1 + r.Intn(4)
	l, chances, rows := given(randomStates(r, count)), randomChances(r, count), randomRows(r, count)
	h := handed{to: r.Intn(count)}
	switch r.Intn(16) {
	case 0:
		l[r.Intn(count)] = states[r.Intn(len(states))]
	case 1:
		chances = wrong[r.Intn(len(wrong))]
	case 2:
		rows[r.Intn(count)] = wrong[r.Intn(len(wrong))]
	case 3:
		h.to = wrongPlaces(count)[r.Intn(17)]
	case 4:
		l = l[1:]
	}
	room, all := make([]int64, 0, 1000), make([]predict.State, 0, 20) // never moved, so that all pieces stay in them
	h.l = piece(&all, l, states[0], states[1])
	h.chances = piece(&room, chances, 5, 6, 7)
	for _, row := range rows {
		h.rows = append(h.rows, piece(&room, row, 5, 6, 7))
	}
	h.room, h.all = room, all
	switch r.Intn(6) { // they share memory
	case 0:
		h.rows[0] = h.rows[count-1]
	case 1:
		h.rows[r.Intn(count)] = h.chances
	}
	return h
}

// P9, and the first of the chapter's rules: what is handed in is as it was after each call, spare room too, no answer shares memory with it, and two answers of the same are the same.
func TestP9SameAnswersAndNothingChanged(t *testing.T) {
	r := rand.New(rand.NewSource(27))
	states, wrong := wrongStates(), slices.DeleteFunc(wrongChances(), func(l []int64) bool { return len(l) > 9 })
	for range 5000 {
		h := anything(r, states, wrong)
		room, all, outer := slices.Clone(h.room), slices.Clone(h.all), slices.Clone(h.rows)
		first := h.ask()
		if !slices.Equal(h.room, room) || !slices.Equal(h.all, all) {
			t.Fatalf("%v, %v: what was handed in was changed: %v", room, all, h)
		}
		for i := range outer {
			if len(h.rows[i]) != len(outer[i]) || len(outer[i]) > 0 && &h.rows[i][0] != &outer[i][0] {
				t.Fatalf("%v: the list of rows was changed", h)
			}
		}
		if second := h.ask(); !first.same(second) {
			t.Fatalf("%v: %v, then %v", h, first, second)
		}
	}
}

// The same is answered again, whatever was asked for in between.
func TestP9NothingIsKept(t *testing.T) {
	states, wrong := wrongStates(), wrongChances()
	wrong = slices.DeleteFunc(wrong, func(l []int64) bool { return len(l) > 9 })
	var first []answers
	for round := range 2 {
		r := rand.New(rand.NewSource(28))
		for i := range 2000 {
			h := anything(r, states, wrong)
			got := h.ask()
			if round == 0 {
				first = append(first, got)
			} else if !got.same(first[i]) {
				t.Fatalf("%v: %v, then %v", h, first[i], got)
			}
		}
	}
}

// An answer is its own: what is done to it, or to what was handed in, is seen in no other; nor do two lists of one answer share anything.
func TestP9AnAnswerIsItsOwn(t *testing.T) {
	rows := [][]int64{{one, 0, 0}, {0, one, 0}, {0, 0, one}}
	h := handed{l: given(someStates()), chances: someChances(), rows: rows, to: 1}
	shares, err := mix.Shares(h.chances, h.rows, h.to)
	all, then, over, err2 := mix.All(h.l, h.chances, h.rows)
	if err != nil || err2 != nil || over {
		t.Fatal(err, err2)
	}
	h.ask() // which fills its own
	all[0].X, all[1].P.A[0] = allOf(9), 9
	if !slices.Equal(then, someChances()) || all[2] != someStates()[2].given() {
		t.Errorf("%v, %v", then, all)
	}
	then[0] = 9
	if !slices.Equal(shares, alone(1, 3)) {
		t.Errorf("%v", shares)
	}
	if !slices.Equal(h.l, given(someStates())) || !slices.Equal(h.chances, someChances()) || !slices.Equal(slices.Concat(h.rows...), slices.Concat(itself(3)...)) {
		t.Errorf("%v was changed", h)
	}
	all, then, _, _ = mix.All(h.l, h.chances, h.rows)
	clear(h.l)
	clear(h.chances)
	for _, row := range h.rows {
		clear(row)
	}
	if !slices.Equal(all, given(someStates())) || !slices.Equal(then, someChances()) || !slices.Equal(shares, alone(1, 3)) {
		t.Errorf("%v, %v, %v", all, then, shares)
	}
}

// Nil and the empty list are the same.
func TestP9NilIsEmpty(t *testing.T) {
	s := someStates()[:1]
	for _, none := range [][]int64{nil, {}, make([]int64, 0, 9)} {
		for _, rows := range [][][]int64{nil, {}, make([][]int64, 0, 9), {none}} {
			for _, l := range [][]predict.State{nil, {}, make([]predict.State, 0, 9), given(s)} {
				wantNoAll(t, l, none, rows)
				wantNoAll(t, l, []int64{one}, rows)
				wantNoJoin(t, l, none)
			}
			wantNoShares(t, none, rows, 0)
			wantNoShares(t, []int64{one}, rows, 0)
		}
	}
}
