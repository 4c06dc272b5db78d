package mat_test

import (
	"math"
	"testing"

	"radome/mat"
)

// wrongMats are matrices that may not be: by their rows, by their columns, or by a number behind the last place.
func wrongMats() []mat.Mat {
	var out []mat.Mat
	for _, wrong := range []int{0, -1, 7, 8, -6, 36, 1 << 32, 1 << 61, 1<<62 + 1, math.MinInt, math.MaxInt} {
		for _, right := range []int{1, 2, 6, 0, wrong, 36} {
			out = append(out, mat.Mat{Rows: wrong, Cols: right}, mat.Mat{Rows: right, Cols: wrong})
			out = append(out, mat.Mat{Rows: wrong, Cols: right, A: [36]int64{unit}}, mat.Mat{Rows: right, Cols: wrong, A: [36]int64{unit}})
		}
	}
	out = append(out, mat.Mat{Rows: -2, Cols: -3}, mat.Mat{Rows: -1, Cols: -1}, mat.Mat{Rows: 4, Cols: 9}, mat.Mat{Rows: 9, Cols: 4}, mat.Mat{Rows: 36, Cols: 1}, mat.Mat{Rows: 12, Cols: 3})
	for _, size := range sizes() {
		for place := size[0] * size[1]; place < 36; place++ {
			m := matOf(filled(1, size[0], size[1]))
			for _, n := range []int64{1, -1, most, least} {
				m.A[place] = n
				out = append(out, m)
			}
		}
	}
	return out
}

// fitting is a matrix that may be and has so many rows and columns, as far as it may have them.
func fitting(rows, cols int) mat.Mat {
	return matOf(filled(unit, min(max(rows, 1), 6), min(max(cols, 1), 6)))
}

// vectorOf is a vector of so many parts, as far as there can be so many.
func vectorOf(parts int) []int64 { return make([]int64, min(max(parts, 0), 100)) }

// The chapter's rules: all answer ErrArg of a matrix that may not be, with nothing beside it.
func TestMA1WrongMatricesAreAskedNothing(t *testing.T) {
	for _, m := range wrongMats() {
		for _, place := range [][2]int{{0, 0}, {1, 0}, {0, 1}, {5, 5}, {-1, -1}, {m.Rows, m.Cols}, {m.Rows - 1, m.Cols - 1}, {math.MaxInt, math.MaxInt}, {math.MinInt, math.MinInt}} {
			n, err := m.At(place[0], place[1])
			wantErr(t, call("At", m, place), err)
			if n != 0 {
				t.Errorf("At of %v: %d beside an error", m, n)
			}
			row, err := m.Row(place[0])
			wantNone(t, call("Row", m, place[0]), row, false, err)
		}
		got, err := mat.Turn(m)
		wantWrong(t, call("Turn", m), got, false, err)
	}
}

func TestMA2WrongMatricesAreNotReckonedWith(t *testing.T) {
	calls := map[string]func(a, b mat.Mat) (mat.Mat, bool, error){"Add": mat.Add, "Sub": mat.Sub, "Mul": mat.Mul}
	for _, m := range wrongMats() {
		for name, of := range calls {
			for _, other := range []mat.Mat{m, fitting(m.Rows, m.Cols), fitting(m.Cols, m.Rows), fitting(1, 1), fitting(6, 6), {}} {
				got, over, err := of(m, other)
				wantWrong(t, call(name, m, other), got, over, err)
				got, over, err = of(other, m)
				wantWrong(t, call(name, other, m), got, over, err)
			}
		}
		for _, parts := range []int{m.Cols, m.Rows, 0, 1, 6, 7, 36} {
			v, over, err := mat.Apply(m, vectorOf(parts))
			wantNone(t, call("Apply", m, parts), v, over, err)
		}
	}
}

func TestMA3WrongMatricesAreNotMadeEven(t *testing.T) {
	for _, m := range wrongMats() {
		got, over, err := mat.Even(m)
		wantWrong(t, call("Even", m), got, over, err)
	}
	for _, size := range sizes() {
		if size[0] != size[1] {
			m := fitting(size[0], size[1])
			got, over, err := mat.Even(m)
			wantWrong(t, call("Even", m), got, over, err)
		}
	}
}

func TestMA2MatricesThatDoNotFit(t *testing.T) {
	for _, one := range sizes() {
		for _, other := range sizes() {
			a, b := fitting(one[0], one[1]), fitting(other[0], other[1])
			if one != other {
				got, over, err := mat.Add(a, b)
				wantWrong(t, call("Add", one, other), got, over, err)
				got, over, err = mat.Sub(a, b)
				wantWrong(t, call("Sub", one, other), got, over, err)
			}
			if one[1] != other[0] {
				got, over, err := mat.Mul(a, b)
				wantWrong(t, call("Mul", one, other), got, over, err)
			}
		}
		for parts := range 9 {
			if parts != one[1] {
				v, over, err := mat.Apply(fitting(one[0], one[1]), vectorOf(parts))
				wantNone(t, call("Apply", one, parts), v, over, err)
			}
		}
		for _, none := range [][]int64{nil, {}} {
			v, over, err := mat.Apply(fitting(one[0], one[1]), none)
			wantNone(t, call("Apply", one, none), v, over, err)
		}
	}
}

func TestMA2WrongVectorsHaveNoOuter(t *testing.T) {
	for a := range 9 {
		for b := range 9 {
			if a >= 1 && a <= 6 && b >= 1 && b <= 6 {
				continue
			}
			got, over, err := mat.Outer(vectorOf(a), vectorOf(b))
			wantWrong(t, call("Outer", a, b), got, over, err)
		}
	}
	long, one := make([]int64, 1000), []int64{most}
	for _, wrong := range [][]int64{nil, {}, long, long[:36], long[:0]} {
		for _, other := range [][]int64{wrong, one, {1, 2, 3, 4, 5, 6}, nil} {
			got, over, err := mat.Outer(wrong, other)
			wantWrong(t, call("Outer", len(wrong), other), got, over, err)
			got, over, err = mat.Outer(other, wrong)
			wantWrong(t, call("Outer", other, len(wrong)), got, over, err)
		}
	}
}
