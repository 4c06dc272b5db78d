package vec_test

import (
	"math/rand"
	"slices"
	"testing"

	"radome/vec"
)

// answers is what all calls answer of vectors; each answer is filled with other numbers, spare room too, once it is told: that it is nobody else's.
func answers(l [][]int64, k int64, chances []int64) []any {
	var out []any
	add := func(v []int64, over bool, err error) {
		for _, part := range v {
			out = append(out, part)
		}
		out = append(out, len(v), over, err)
		room := v[:cap(v)]
		for i := range room {
			room[i] = 77
		}
	}
	a, b := l[0], l[len(l)-1]
	add(vec.Add(a, b))
	add(vec.Add(b, a))
	add(vec.Sub(a, b))
	add(vec.Scale(a, k))
	add(vec.Scale(a, 1<<20))
	add(vec.Join(l, chances))
	add(vec.Join(l[:1], []int64{1 << 30}))
	return append(out, vec.Size(a), vec.Size(b))
}

// P9, and the first of the chapter's rules: what is handed in is as it was, spare room too, no answer shares memory with it, and two answers of the same are the same.
func TestP9SameAnswersAndNothingChanged(t *testing.T) {
	r := rand.New(rand.NewSource(9))
	for i := range 7000 {
		room := vector(r, 60)
		kept := slices.Clone(room)
		l := make([][]int64, 1+r.Intn(5))
		for j := range l {
			long := i % 8
			if r.Intn(10) == 0 {
				long = r.Intn(8)
			}
			from := r.Intn(50)
			l[j] = room[from : from+long] // they may share memory
		}
		outer := slices.Clone(l)
		chances := room[3 : 3+len(l)]
		if r.Intn(10) == 0 {
			chances = room[3 : 3+r.Intn(6)]
		}
		first := answers(l, room[0], chances)
		if !slices.Equal(room, kept) {
			t.Fatalf("%v, %v: what was handed in was changed", l, chances)
		}
		if second := answers(l, room[0], chances); !slices.Equal(first, second) {
			t.Fatalf("%v, %v: %v, then %v", l, chances, first, second)
		}
		for j := range l {
			if len(l[j]) != len(outer[j]) || len(l[j]) > 0 && &l[j][0] != &outer[j][0] {
				t.Fatalf("the list of vectors was changed")
			}
		}
	}
}

// An answer of none has no room that two could share, and vectors without parts are no wrong ones.
func TestP9NilIsEmpty(t *testing.T) {
	for _, none := range [][]int64{nil, {}, make([]int64, 0, 9)} {
		for _, other := range [][]int64{nil, {}, make([]int64, 0, 9)} {
			got, over, err := vec.Add(none, other)
			wantIs(t, "Add of none", got, over, err, nil, false)
			got, over, err = vec.Sub(none, other)
			wantIs(t, "Sub of none", got, over, err, nil, false)
			got, over, err = vec.Join([][]int64{none, other}, []int64{1 << 29, 1 << 29})
			wantIs(t, "Join of none", got, over, err, nil, false)
		}
		got, over, err := vec.Scale(none, 5)
		wantIs(t, "Scale of none", got, over, err, nil, false)
		if n := vec.Size(none); n != 0 {
			t.Errorf("Size of none: %d", n)
		}
	}
}
