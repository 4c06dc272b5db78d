package ldl_test

import (
	"math/rand"
	"testing"

	"radome/ldl"
)

// solved is factors, a vector and what is answered of them.
type solved struct {
	l          table
	d, v, want []int64
	over       bool
}

// wantAllSolved asks for just those vectors, of the package and of the tests' own steps.
func wantAllSolved(t *testing.T, cases []solved) {
	t.Helper()
	for _, c := range cases {
		wantSolve(t, c.l, c.d, c.v, c.want, c.over)
		checkSolve(t, c.l, c.d, c.v)
	}
}

// parts is a vector.
func parts(numbers ...int64) []int64 { return numbers }

func TestLD2Solve(t *testing.T) {
	l, d := lower(2, whole/2), scaled(unit, 4, 2) // the document's
	all := scaled(whole, 1, 1, 1, 1, 1, 1, 1, 1, 1, 1, 1, 1, 1, 1, 1)
	wantAllSolved(t, []solved{
		{l, d, scaled(unit, 6, 5), scaled(unit, 1, 1), false}, {l, d, scaled(unit, -6, -5), scaled(unit, -1, -1), false}, {l, d, scaled(unit, 2, -1), scaled(unit, 1, -1), false},
		{l, d, parts(0, 0), parts(0, 0), false}, {lower(1), parts(unit), parts(0), parts(0), false}, {lower(6, all...), filled(1, 6), filled(0, 6), filled(0, 6), false},
		{lower(1), parts(unit), parts(7), parts(7), false}, {lower(1), parts(2 * unit), parts(-8), parts(-4), false}, {lower(1), parts(3 * unit), parts(unit), parts(349525), false}, {lower(1), parts(3 * unit), parts(-2 * unit), parts(-699051), false},
		{lower(6), scaled(unit, 1, 2, 3, 4, 5, 6), scaled(unit, 7, -14, 21, -28, 35, -42), scaled(unit, 7, -7, 7, -7, 7, -7), false},
		{lower(6, all...), filled(unit, 6), scaled(unit, 1, 2, 3, 4, 5, 6), scaled(unit, 0, 0, 0, 0, 0, 1), false}, {lower(6, all...), filled(unit, 6), scaled(unit, 1, 0, 0, 0, 0, 0), scaled(unit, 2, -1, 0, 0, 0, 0), false},
		{lower(3, whole, 2*whole, 3*whole), scaled(unit, 1, 2, 4), scaled(unit, 1, 3, 9), filled(unit/4, 3), false},
	})
}

// Quotients and sums that lie on just a half before they are rounded: the even one. A sum is rounded, then taken off: what is left of an odd number may be odd.
func TestLD2SolveHalves(t *testing.T) {
	half, units := lower(2, whole/2), filled(unit, 2)
	wantAllSolved(t, []solved{
		{lower(6), filled(1<<21, 6), parts(1, 3, 5, -1, -3, -5), parts(0, 2, 2, 0, -2, -2), false}, {lower(1), parts(1 << 21), parts(7), parts(4), false},
		{half, units, parts(1, 0), parts(1, 0), false}, {half, units, parts(1, 1), parts(1, 1), false}, {half, units, parts(3, 0), parts(4, -2), false}, {half, units, parts(5, 0), parts(6, -2), false}, {half, units, parts(3, 1), parts(3, -1), false}, {half, units, parts(-1, 1), parts(-1, 1), false},
		{half, units, parts(-1, 0), parts(-1, 0), false}, {half, units, parts(-3, 0), parts(-4, 2), false}, {half, units, parts(-5, 0), parts(-6, 2), false},
		{half, units, parts(0, 1), parts(0, 1), false}, {half, units, parts(0, 3), parts(-2, 3), false}, {half, units, parts(0, 5), parts(-2, 5), false}, {half, units, parts(0, -1), parts(0, -1), false}, {half, units, parts(0, -3), parts(2, -3), false}, {half, units, parts(0, -5), parts(2, -5), false},
		{lower(3, 0, whole/2, whole/2), filled(unit, 3), parts(1, 1, 0), parts(1, 1, -1), false}, {lower(3, 0, whole/2, whole/2), filled(unit, 3), parts(3, 3, 0), parts(5, 5, -3), false}, // two halves, rounded once
		{lower(3, whole/2, whole/2, 0), filled(unit, 3), parts(0, 1, 1), parts(-1, 1, 1), false}, {lower(3, whole/2, -whole/2, 0), filled(unit, 3), parts(0, 3, 3), parts(0, 3, 3), false},
		{lower(2, 1), units, parts(1<<29, 0), parts(1<<29, 0), false}, {lower(2, 1), units, parts(3<<29, 0), parts(3<<29, -2), false}, {lower(2, -1), units, parts(5<<29, 0), parts(5<<29, 2), false},
	})
}

// Parts and steps that are just at MaxTop's size, and one beyond it, on both sides of 0.
func TestLD2SolveMaxTop(t *testing.T) {
	const half = 1 << 61
	plus, minus := lower(2, whole), lower(2, -whole)
	twice, less := lower(2, 2*whole), lower(2, -2*whole)
	units, greatest := filled(unit, 2), filled(top, 2)
	wantAllSolved(t, []solved{
		{lower(1), parts(unit), parts(top), parts(top), false}, {lower(1), parts(unit), parts(-top), parts(-top), false}, {lower(1), parts(unit), parts(top + 1), parts(top), true}, {lower(1), parts(unit), parts(-top - 1), parts(-top), true}, {lower(1), parts(unit), parts(most), parts(top), true}, {lower(1), parts(unit), parts(least), parts(-top), true},
		{lower(1), parts(top), parts(top), parts(unit), false}, {lower(1), parts(top), parts(-top), parts(-unit), false}, {lower(1), parts(top), parts(top + 1), parts(unit), true}, {lower(1), parts(top), parts(least), parts(-unit), true}, {lower(1), parts(top), parts(1), parts(0), false},
		{lower(1), parts(1), parts(1<<42 - 1), parts(1<<62 - 1<<20), false}, {lower(1), parts(1), parts(1 << 42), parts(top), true}, {lower(1), parts(1), parts(1 - 1<<42), parts(1<<20 - 1<<62), false}, {lower(1), parts(1), parts(-1 << 42), parts(-top), true}, // quotients
		{lower(1), parts(1 << 19), parts(half - 1), parts(top - 1), false}, {lower(1), parts(1 << 19), parts(half), parts(top), true}, {lower(1), parts(1 << 19), parts(-half), parts(-top), true}, {lower(1), parts(1), parts(top), parts(top), true},
		{lower(2), parts(1, unit), parts(1<<42, 5), parts(top, 5), true}, {lower(2), parts(unit, 1), parts(5, -1<<42), parts(5, -top), true}, {lower(2), parts(1, 1), parts(1<<42-1, -5), parts(1<<62-1<<20, -5*unit), false},
		{plus, greatest, parts(top, 0), scaled(unit, 2, -1), false}, {plus, greatest, parts(top, -1), scaled(unit, 2, -1), true}, {plus, greatest, parts(-top, 0), scaled(unit, -2, 1), false}, {plus, greatest, parts(-top, 1), scaled(unit, -2, 1), true}, // what is left
		{minus, greatest, parts(top, 0), scaled(unit, 2, 1), false}, {minus, greatest, parts(top, 1), scaled(unit, 2, 1), true}, {plus, greatest, parts(top, most-1), parts(0, unit), false}, {plus, greatest, parts(top, most), parts(0, unit), true},
		{twice, filled(half, 2), parts(half-1, 0), scaled(unit, 5, -2), false}, {twice, filled(half, 2), parts(half, 0), scaled(unit, 5, -2), true}, {twice, parts(half, 1), parts(half, top), parts(unit, 0), true}, {twice, parts(half, 1), parts(-half, -top), parts(-unit, 0), true}, {less, parts(half, 1), parts(half, -top), parts(unit, 0), true}, // sums
		{plus, units, parts(0, top), parts(-top, top), false}, {minus, units, parts(0, top), parts(top, top), false}, {plus, units, parts(0, -top), parts(top, -top), false}, {plus, units, parts(-1, top-1), parts(-top, top), true}, {plus, units, parts(1, 1-top), parts(top, -top), true}, // upwards
		{twice, units, parts(0, half-1), parts(1-top, half-1), false}, {twice, units, parts(0, half), parts(-top, half), true}, {twice, units, parts(0, -half), parts(top, -half), true}, {less, units, parts(0, half), parts(top, half), true},
		{twice, parts(1, unit), parts(1<<41, 1<<42+half), parts(half-top, half), true}, {twice, parts(1, unit), parts(1<<41, 1<<42+half-1), parts(half-top+1, half-1), false}, {twice, parts(1, unit), parts(-1<<41, -1<<42-half), parts(top-half, -half), true},
		{lower(2, top), units, parts(whole, top), parts(whole, 0), false}, {lower(2, -top), units, parts(whole, -top), parts(whole, 0), false}, {lower(2, top), units, parts(whole+1, top), parts(whole+1, 0), true}, {lower(2, -top), units, parts(whole+1, -top), parts(whole+1, 0), true},
	})
}

func TestLD2SolveEdges(t *testing.T) {
	for _, a := range edges() {
		for _, b := range edges() {
			checkSolve(t, lower(2, whole), parts(unit, top), parts(a, b))
			checkSolve(t, lower(2, -whole/2), parts(1<<31, 3), parts(a, b))
			if b >= 1 && b <= top {
				checkSolve(t, lower(1), parts(b), parts(a))
				checkSolve(t, lower(3, 1, -whole, 3*whole/2), parts(b, unit, b), parts(a, 1, a))
			}
			if a >= -top && a <= top {
				checkSolve(t, lower(2, a), parts(unit, unit), parts(b, 1))
				checkSolve(t, lower(2, a), parts(unit, unit), parts(1, b))
			}
		}
	}
}

func TestLD2SolveRandomFactors(t *testing.T) {
	r := rand.New(rand.NewSource(6))
	var great [7]int
	for i := range 9000 {
		n := 1 + i%6
		l, d := randomFactors(r, n, 1+r.Intn(40), 1+r.Intn(61)>>r.Intn(4))
		if checkSolve(t, l, d, vector(r, n, max(1+r.Intn(63), 63*r.Intn(2)))) {
			great[n]++
		}
	}
	for n := 1; n <= 6; n++ {
		if great[n] < 100 || great[n] > 1350 {
			t.Errorf("%d of 1500 answers of %d parts are too great", great[n], n)
		}
	}
}

// What a matrix makes of a vector is solved to that vector, and Far is how much both make together, where nothing is rounded.
func TestLD2SolveUndoesTheMatrix(t *testing.T) {
	r := rand.New(rand.NewSource(7))
	for i := range 1200 {
		n := 1 + i%6
		l, d := lower(n), make([]int64, n)
		for i := range l {
			for j := range i {
				l[i][j] = int64(r.Intn(17)-8) * whole / 4
			}
			d[i] = unit << r.Intn(4)
		}
		m, _ := madeTable(l, d)
		x, v, all := make([]int64, n), make([]int64, n), int64(0)
		for j := range x {
			x[j] = int64(r.Intn(200) - 100)
			for k := range v {
				v[k] += m[k][j] * x[j]
			}
		}
		for j := range x {
			all += x[j] * v[j]
		}
		wantSolve(t, l, d, v, scaled(unit, x...), false)
		wantFar(t, l, d, v, all, false)
		f, err := ldl.Of(matOf(m))
		if err != nil || f != factorsOf(l, d) {
			t.Errorf("Of(%v): %v, %v", m, f, err)
		}
	}
}
