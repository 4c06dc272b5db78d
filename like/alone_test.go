package like_test

import (
	"math/rand"
	"slices"
	"testing"

	"radome/ldl"
	"radome/like"
	"radome/update"
)

// handed is all that the calls are given; the lists are pieces of one room.
type handed struct {
	room                []int64
	gap                 update.Gap
	logs, chances, many []int64
	floor               int64
}

// answers is what all calls answer.
type answers struct {
	log, by int64
	weights []int64
	place   int
	over    [2]bool
	errs    [3]error
}

// ask fills what it was answered, spare room too, with other numbers once it is told: that it is nobody else's.
func (h *handed) ask() answers {
	var out answers
	out.log, out.over[0], out.errs[0] = like.Of(h.gap)
	weights, over, err := like.Weights(h.logs, h.chances, h.floor)
	out.weights, out.over[1], out.errs[1] = slices.Clone(weights), over, err
	spare := weights[:cap(weights)]
	for i := range spare {
		spare[i] = 77
	}
	out.place, out.by, out.errs[2] = like.Best(h.many)
	return out
}

func (a answers) same(b answers) bool {
	return a.log == b.log && a.by == b.by && slices.Equal(a.weights, b.weights) && a.place == b.place && a.over == b.over && a.errs == b.errs
}

// piece is a list as a part of the room, with spare room behind it.
func (h *handed) piece(l []int64) []int64 {
	from := len(h.room)
	h.room = append(append(h.room, l...), 5, 6, 7)
	return h.room[from : from+len(l)]
}

// anything is what may be, or may not.
func anything(r *rand.Rand, factors []ldl.Factors, wrong [][]int64) handed {
	count := 1 + r.Intn(4)
	f := randomPair(r, 62)
	h := handed{gap: f.gap([2]int64{random(r, 62), int64(r.Uint64())}), floor: floors[r.Intn(len(floors))]}
	logs, chances, many := randomLogs(r, count, 1+r.Intn(62)), randomChances(r, count), farLogs(r, r.Intn(70))
	switch r.Intn(10) {
	case 0:
		h.gap.F = factors[r.Intn(len(factors))]
	case 1:
		chances = wrong[r.Intn(len(wrong))]
	case 2:
		logs[r.Intn(count)] = beyond[r.Intn(len(beyond))]
	case 3:
		h.floor = wrongFloors[r.Intn(len(wrongFloors))]
	case 4:
		logs = logs[1:]
	case 5:
		logs = farLogs(r, count)
	case 6:
		slices.Sort(many)
	}
	h.room = make([]int64, 0, 300) // never moved, so that all pieces stay in it
	h.logs, h.chances, h.many = h.piece(logs), h.piece(chances), h.piece(many)
	switch r.Intn(8) { // they share memory
	case 0:
		h.logs = h.chances
	case 1:
		h.many = h.logs
	}
	return h
}

// P9, and the first of the chapter's rules: what is handed in is as it was after each call, spare room too, no answer shares memory with it, and two answers of the same are the same.
func TestP9SameAnswersAndNothingChanged(t *testing.T) {
	r := rand.New(rand.NewSource(15))
	factors, wrong := wrongFactors(), slices.DeleteFunc(wrongChances(), func(l []int64) bool { return len(l) > 9 })
	for range 20000 {
		h := anything(r, factors, wrong)
		room, gap := slices.Clone(h.room), h.gap
		first := h.ask()
		if !slices.Equal(h.room, room) || h.gap != gap {
			t.Fatalf("%v: what was handed in was changed: %v", room, h)
		}
		if second := h.ask(); !first.same(second) {
			t.Fatalf("%v: %v, then %v", h, first, second)
		}
	}
}

// The same is answered again, whatever was asked for in between.
func TestP9NothingIsKept(t *testing.T) {
	factors, wrong := wrongFactors(), slices.DeleteFunc(wrongChances(), func(l []int64) bool { return len(l) > 9 })
	var first []answers
	for round := range 2 {
		r := rand.New(rand.NewSource(16))
		for i := range 4000 {
			h := anything(r, factors, wrong)
			got := h.ask()
			if round == 0 {
				first = append(first, got)
			} else if !got.same(first[i]) {
				t.Fatalf("%v: %v, then %v", h, first[i], got)
			}
		}
	}
}

// An answer is its own: what is done to it, or to what was handed in, is seen in no other.
func TestP9AnAnswerIsItsOwn(t *testing.T) {
	logs, chances := []int64{0, 0, 0}, []int64{half, quarter, quarter} // of these the answer has the same numbers as what was handed in
	ask := func() []int64 {
		out, _, err := like.Weights(logs, chances, 0)
		if err != nil {
			t.Fatal(err)
		}
		return out
	}
	kept, other := ask(), ask()
	clear(other[:cap(other)])
	if again := ask(); !slices.Equal(kept, []int64{half, quarter, quarter}) || !slices.Equal(again, kept) {
		t.Errorf("%v, then %v", kept, again)
	}
	if !slices.Equal(chances, []int64{half, quarter, quarter}) || !slices.Equal(logs, []int64{0, 0, 0}) {
		t.Errorf("%v and %v were changed", logs, chances)
	}
	clear(chances)
	logs[1] = 9
	if !slices.Equal(kept, []int64{half, quarter, quarter}) {
		t.Errorf("%v", kept)
	}
}

// What stands beside the greatest one stays where it is, and so does what stands behind the list.
func TestP9BestLeavesAllAsItIs(t *testing.T) {
	for many := 1; many <= 64; many++ {
		for place := range many {
			room := make([]int64, many+8)
			for i := range room {
				room[i] = int64(-i - 1)
			}
			room[place] = 100
			was := slices.Clone(room)
			checkBest(t, room[:many])
			if !slices.Equal(room, was) {
				t.Fatalf("%v: now %v", was, room)
			}
		}
	}
}

// Nil and the empty list are the same.
func TestP9NilIsEmpty(t *testing.T) {
	for _, none := range [][]int64{nil, {}, make([]int64, 0, 9)} {
		for _, other := range [][]int64{nil, {}, make([]int64, 0, 9), {one}} {
			wantNoWeights(t, none, other, 0)
			wantNoWeights(t, other, none, 0)
		}
		wantNoBest(t, none)
	}
}
