package ldl_test

import (
	"math/rand"
	"slices"
	"testing"

	"radome/ldl"
	"radome/mat"
)

// answers is what all calls answer; the vector that is answered is filled with other numbers, spare room too, once it is told: that it is nobody else's.
func answers(m mat.Mat, f ldl.Factors, v []int64) []any {
	made, err := ldl.Of(m)
	out := []any{made, err}
	x, over, err := ldl.Solve(f, v)
	for _, part := range x {
		out = append(out, part)
	}
	out = append(out, len(x), over, err)
	room := x[:cap(x)]
	for i := range room {
		room[i] = 77
	}
	far, over, err := ldl.Far(f, v)
	out = append(out, far, over, err)
	log, err := ldl.Log(f)
	return append(out, log, err, ldl.Check(f))
}

// P9, and the first of the chapter's rules: what is handed in is as it was, spare room too, no answer shares memory with it, and two answers of the same are the same.
func TestP9SameAnswersAndNothingChanged(t *testing.T) {
	r := rand.New(rand.NewSource(11))
	for i := range 6000 {
		n := 1 + i%6
		m := matOf(randomEven(r, n))
		l, d := randomFactors(r, n, 1+r.Intn(61), 1+r.Intn(61))
		f := factorsOf(l, d)
		if r.Intn(8) == 0 {
			f.N, m.Rows = r.Intn(9), r.Intn(9)
		}
		room := vector(r, 20, 1+r.Intn(63))
		from := r.Intn(14)
		v := room[from : from+n]
		keptM, keptF, kept := m, f, slices.Clone(room)
		first := answers(m, f, v)
		if m != keptM || f != keptF || !slices.Equal(room, kept) {
			t.Fatalf("%v, %v, %v: what was handed in was changed", keptM, keptF, v)
		}
		if second := answers(m, f, v); !slices.Equal(first, second) {
			t.Fatalf("%v, %v, %v: %v, then %v", m, f, v, first, second)
		}
	}
}

// Two vectors that are answered do not share memory, nor do they hang on what was done to another one.
func TestP9AVectorIsItsOwn(t *testing.T) {
	f, v := goodFactors(6), []int64{6, 5, 4, 3, 2, 1}
	one, _, _ := ldl.Solve(f, v)
	kept := slices.Clone(one)
	other, _, _ := ldl.Solve(f, v)
	for i := range other {
		other[i] = 99
	}
	if !slices.Equal(one, kept) {
		t.Errorf("%v, then %v", kept, one)
	}
	if again, _, err := ldl.Solve(f, v); !slices.Equal(again, kept) || err != nil {
		t.Errorf("%v, then %v, %v", kept, again, err)
	}
}
