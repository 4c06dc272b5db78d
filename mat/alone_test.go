package mat_test

import (
	"math/rand"
	"slices"
	"testing"

	"radome/mat"
)

// answers is what all calls answer of matrices, vectors and a place; each vector that is answered is filled with other numbers, spare room too, once it is told: that it is nobody else's.
func answers(l table, a, b mat.Mat, v, w []int64, i, j int) []any {
	var out []any
	add := func(m mat.Mat, over bool, err error) { out = append(out, m, over, err) }
	addOne := func(m mat.Mat, err error) { add(m, false, err) }
	addNumbers := func(numbers []int64, over bool, err error) {
		for _, n := range numbers {
			out = append(out, n)
		}
		out = append(out, len(numbers), over, err)
		room := numbers[:cap(numbers)]
		for k := range room {
			room[k] = 77
		}
	}
	addOne(mat.Of(l))
	addOne(mat.Eye(i))
	addOne(mat.Turn(a))
	add(mat.Add(a, b))
	add(mat.Sub(a, b))
	add(mat.Mul(a, b))
	add(mat.Even(a))
	add(mat.Outer(v, w))
	addNumbers(mat.Apply(a, v))
	row, err := a.Row(i)
	addNumbers(row, false, err)
	n, err := a.At(i, j)
	return append(out, n, err, mat.Check(a), mat.Check(b))
}

// P9, and the first of the chapter's rules: what is handed in is as it was, spare room too, no answer shares memory with it, and two answers of the same are the same.
func TestP9SameAnswersAndNothingChanged(t *testing.T) {
	r := rand.New(rand.NewSource(9))
	for range 6000 {
		room := vector(r, 80)
		kept := slices.Clone(room)
		piece := func(parts int) []int64 {
			from := r.Intn(70)
			return room[from : from+parts] // they may share memory
		}
		l := make(table, r.Intn(8))
		for i, parts := 0, r.Intn(8); i < len(l); i++ {
			if r.Intn(20) == 0 {
				parts = r.Intn(8)
			}
			l[i] = piece(parts)
		}
		outer := slices.Clone(l)
		size := 1 + r.Intn(6)
		a, b := matOf(randomRows(r, size, size)), matOf(randomRows(r, size, size))
		if r.Intn(4) == 0 {
			a = mat.Mat{Rows: r.Intn(8), Cols: r.Intn(8), A: a.A}
		}
		keptA, keptB := a, b
		v, w := piece(a.Cols), piece(r.Intn(8))
		i, j := r.Intn(8), r.Intn(8)
		first := answers(l, a, b, v, w, i, j)
		if !slices.Equal(room, kept) || a != keptA || b != keptB {
			t.Fatalf("%v, %v, %v, %v, %v: what was handed in was changed", l, keptA, keptB, v, w)
		}
		for k := range l {
			if len(l[k]) != len(outer[k]) || cap(l[k]) != cap(outer[k]) || len(l[k]) > 0 && &l[k][0] != &outer[k][0] {
				t.Fatalf("the list of rows was changed")
			}
		}
		if second := answers(l, a, b, v, w, i, j); !slices.Equal(first, second) {
			t.Fatalf("%v, %v, %v, %v, %v: %v, then %v", l, a, b, v, w, first, second)
		}
	}
}

// A matrix does not go on with the rows it was made of, and a row of it is its own.
func TestP9AMatrixIsItsOwn(t *testing.T) {
	l := counted(3, 4)
	m, err := mat.Of(l)
	if err != nil {
		t.Fatal(err)
	}
	l[1][2] = 99
	l[2] = nil
	wantIs(t, "Of, rows changed behind it", m, false, nil, counted(3, 4), false)
	for i := range 3 {
		row, _ := m.Row(i)
		row[0] = 99
		again, err := m.Row(i)
		wantNumbers(t, "Row, the other one changed", again, false, err, counted(3, 4)[i], false)
	}
	wantIs(t, "a matrix whose rows were changed", m, false, nil, counted(3, 4), false)
}
