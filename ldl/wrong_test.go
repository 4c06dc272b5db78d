package ldl_test

import (
	"math"
	"testing"

	"radome/ldl"
	"radome/mat"
)

// goodFactors are factors that may be, with numbers at all places where they may stand.
func goodFactors(n int) ldl.Factors {
	l := lower(n)
	for i := range l {
		for j := range i {
			l[i][j] = int64(i-3*j) * 1000
		}
	}
	return factorsOf(l, filled(unit, n))
}

// wrongFactors are factors that may not be: by N, by a number of D, or by a number of L.
func wrongFactors() []ldl.Factors {
	out := []ldl.Factors{{}}
	for _, n := range []int{0, -1, 7, 8, -6, 36, 37, 1 << 31, 1 << 32, 1<<32 + 1, 1 << 61, 1<<62 + 1, math.MinInt, math.MinInt + 1, math.MaxInt} {
		for good := 1; good <= 6; good++ {
			f := goodFactors(good)
			f.N = n
			out = append(out, f)
		}
		out = append(out, ldl.Factors{N: n})
	}
	for n := 1; n <= 6; n++ {
		out = append(out, ldl.Factors{N: n}, ldl.Factors{N: n, D: goodFactors(n).D}, ldl.Factors{N: n, L: goodFactors(n).L})
		for i := range 6 {
			for _, wrong := range []int64{1, -1, 0, unit, top, top + 1, -top, most, least} {
				if i < n && wrong >= 1 && wrong <= top || i >= n && wrong == 0 {
					continue
				}
				f := goodFactors(n)
				f.D[i] = wrong
				out = append(out, f)
			}
		}
		for place := range 36 {
			for _, wrong := range wrongInL(n, place/n, place%n) {
				f := goodFactors(n)
				f.L[place] = wrong
				out = append(out, f)
			}
		}
	}
	return out
}

// wrongInL are numbers that may not stand at a place of L; from row n on no other than 0 may.
func wrongInL(n, i, j int) []int64 {
	if i >= n || j > i {
		return []int64{1, -1, whole, unit, top, -top, most, least}
	}
	if i == j {
		return []int64{0, 1, -1, unit, whole - 1, whole + 1, -whole, 1 << 31, 1 << 29, top, most, least}
	}
	return []int64{top + 1, -top - 1, top + 2, -top - 2, most, most - 1, least, least + 1}
}

func TestLD1CheckWrongFactors(t *testing.T) {
	for _, f := range wrongFactors() {
		wantErr(t, call("Check", f), ldl.Check(f), 1)
	}
}

func TestLD1CheckFactorsThatMayBe(t *testing.T) {
	right := func(f ldl.Factors) {
		t.Helper()
		if err := ldl.Check(f); err != nil {
			t.Errorf("Check(%v): %v", f, err)
		}
	}
	for n := 1; n <= 6; n++ {
		right(goodFactors(n))
		right(factorsOf(lower(n), filled(1, n)))
		right(factorsOf(lower(n), filled(top, n)))
		for i := range n {
			for _, number := range []int64{1, 2, unit, top - 1, top} {
				f := goodFactors(n)
				f.D[i] = number
				right(f)
			}
			for j := range i {
				for _, number := range []int64{0, 1, -1, whole, -whole, top - 1, top, 1 - top, -top} {
					f := goodFactors(n)
					f.L[i*n+j] = number
					right(f)
				}
			}
		}
	}
}

// Factors that may not be are ErrArg of every call, whatever the vector is.
func TestLD2WrongFactorsAreNotSolved(t *testing.T) {
	for _, f := range wrongFactors() {
		for _, many := range []int{min(max(f.N, 0), 36), 0, 1, 2, 6, 7, 36} {
			wantWrongFactors(t, f, filled(1, many))
		}
		wantWrongFactors(t, f, nil)
	}
}

func TestLD3WrongFactorsHaveNoLog(t *testing.T) {
	for _, f := range wrongFactors() {
		got, err := ldl.Log(f)
		wantErr(t, call("Log", f), err, 1)
		if got != 0 {
			t.Errorf("Log(%v): %d beside an error", f, got)
		}
	}
}

// Vectors of other lengths, of none and of 7 parts; one that would be too great as well is ErrArg, with nothing told of that.
func TestLD2VectorsOfOtherLengths(t *testing.T) {
	for n := 1; n <= 6; n++ {
		for _, many := range []int{0, 1, 2, 3, 4, 5, 6, 7, 8, 36, 1000} {
			for _, number := range []int64{0, 1, most} {
				if many != n {
					wantWrongFactors(t, goodFactors(n), filled(number, many))
				}
			}
		}
		wantWrongFactors(t, goodFactors(n), nil)
		wantWrongFactors(t, goodFactors(n), []int64{})
		wantWrongFactors(t, goodFactors(n), make([]int64, 0, n))
		wantWrongFactors(t, goodFactors(n), make([]int64, n+1)[:n-1])
	}
}

// wrongMats are matrices that may not be, that have other rows than columns, or that are not the same turned.
func wrongMats() []mat.Mat {
	out := []mat.Mat{{}}
	for _, wrong := range []int{0, -1, 7, 36, 1 << 32, 1 << 61, math.MinInt, math.MaxInt} {
		for _, other := range []int{1, 2, 6, wrong} {
			out = append(out, mat.Mat{Rows: wrong, Cols: other, A: [36]int64{unit}}, mat.Mat{Rows: other, Cols: wrong, A: [36]int64{unit}})
		}
	}
	for n := 1; n <= 6; n++ {
		eye, _ := mat.Eye(n)
		for place := n * n; place < 36; place++ {
			m := eye
			m.A[place] = 1
			out = append(out, m)
		}
		for cols := 1; cols <= 6; cols++ {
			if cols != n {
				out = append(out, mat.Mat{Rows: n, Cols: cols}, mat.Mat{Rows: n, Cols: cols, A: [36]int64{unit}})
			}
		}
		for i := range n {
			for j := range n {
				for _, number := range []int64{1, -1, top, most, least} {
					m := eye
					m.A[i*n+j] = number
					if i != j {
						out = append(out, m)
					}
				}
			}
		}
	}
	return out
}

func TestLD1WrongMatricesHaveNoFactors(t *testing.T) {
	for _, m := range wrongMats() {
		wantNoFactors(t, m, 1)
	}
}

// Where ErrNone fits as well, ErrArg comes first.
func TestLD1WrongMatricesComeFirst(t *testing.T) {
	for _, rows := range []table{
		{{0, 1}, {2, 0}}, {{-unit, 1}, {0, -unit}}, {{most, 1}, {2, most}}, {{unit, 2 * unit}, {-2 * unit, unit}}, {{4 * unit, 2 * unit}, {2*unit - 1, unit}}, {{0, 0, 0}, {0, 0, 0}, {0, 1, 0}}, {{1, least}, {most, 1}},
		{{0}, {0}}, {{0, 0}}, {{-1, -1, -1}}, {{most}, {most}, {least}}, {{0, 0, 0}, {0, 0, 0}},
	} {
		wantNoFactors(t, matOf(rows), 1)
	}
	for _, m := range []mat.Mat{{Rows: 1, Cols: 1, A: [36]int64{0, 1}}, {Rows: 1, Cols: 1, A: [36]int64{-1, 35: 1}}, {Rows: 2, Cols: 2, A: [36]int64{most, 0, 0, most, 1}}, {Rows: 7, Cols: 7}, {Rows: 0, Cols: 0}} {
		wantNoFactors(t, m, 1)
	}
}
