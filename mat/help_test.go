package mat_test

import (
	"errors"
	"fmt"
	"math"
	"math/big"
	"math/rand"
	"slices"
	"testing"

	"radome/api"
	"radome/mat"
)

// The reckoner that the tests hold all answers against is math/big: each number exactly, then rounded and bounded by their definitions. It finds the places by rows of their own, not by an array.

const (
	top   = int64(1)<<62 - 1 // MaxTop, written out: the document says both
	most  = math.MaxInt64
	least = math.MinInt64
	unit  = int64(1) << 20 // one
)

// table is the rows of a matrix, as the tests know it.
type table = [][]int64

// edges are the numbers that the document names, powers of two, and their neighbours, of both signs.
func edges() []int64 {
	out := []int64{0, most, most - 1, least, least + 1}
	for _, n := range []int64{1, 2, 3, unit / 2, unit, unit + unit/2, 1 << 31, 1 << 41, 1 << 42, 1 << 52, 1 << 61, 1 << 62} {
		out = append(out, n-1, n, n+1, 1-n, -n, -n-1)
	}
	return append(out, top-1, -top+1)
}

// random is a number of any length and sign; often most of its lower bits are noughts or ones, where halves and carries are found.
func random(r *rand.Rand) int64 {
	n := int64(r.Uint64()) >> r.Intn(64)
	low := int64(1)<<r.Intn(63) - 1
	switch r.Intn(4) {
	case 0:
		n &^= low
	case 1:
		n |= low
	case 2:
		n = n&^low | (low+1)/2
	}
	return n
}

// vector is so many numbers, each an edge or random; some vectors have small ones alone, of which sums are not too great.
func vector(r *rand.Rand, parts int) []int64 {
	all := edges()
	small := r.Intn(2) == 0
	out := make([]int64, parts)
	for i := range out {
		switch {
		case small:
			out[i] = random(r) >> 23
		case r.Intn(3) == 0:
			out[i] = all[r.Intn(len(all))]
		default:
			out[i] = random(r)
		}
	}
	return out
}

// randomRows is a table of so many rows and columns; all rows are small, or none need be.
func randomRows(r *rand.Rand, rows, cols int) table {
	all := vector(r, rows*cols)
	out := make(table, rows)
	for i := range out {
		out[i] = all[i*cols : (i+1)*cols]
	}
	return out
}

// filled is a table all of whose numbers are n.
func filled(n int64, rows, cols int) table {
	out := make(table, rows)
	for i := range out {
		out[i] = slices.Repeat([]int64{n}, cols)
	}
	return out
}

// matOf is the matrix of a table, laid down without a call of the package.
func matOf(l table) mat.Mat {
	out := mat.Mat{Rows: len(l), Cols: len(l[0])}
	place := 0
	for _, row := range l {
		for _, n := range row {
			out.A[place] = n
			place++
		}
	}
	return out
}

// turned is a table's columns.
func turned(l table) table {
	out := make(table, len(l[0]))
	for i := range out {
		for _, row := range l {
			out[i] = append(out[i], row[i])
		}
	}
	return out
}

// nearest is the whole number nearest to n by 2 to the power of bits, of two such the even one.
func nearest(n *big.Int, bits uint) *big.Int {
	one := big.NewInt(1)
	by := new(big.Int).Lsh(one, bits)
	near, rest := new(big.Int).DivMod(n, by, new(big.Int))
	side := rest.Lsh(rest, 1).Cmp(by)
	if side > 0 || side == 0 && near.Bit(0) == 1 {
		near.Add(near, one)
	}
	return near
}

// bounded is what a call answers of a whole number.
func bounded(n *big.Int) (int64, bool) {
	if n.CmpAbs(big.NewInt(top)) > 0 {
		return int64(n.Sign()) * top, true
	}
	return n.Int64(), false
}

// exact is the sum of all products of both, by 2 to the power of bits, rounded and bounded.
func exact(a, b []int64, bits uint) (int64, bool) {
	sum := new(big.Int)
	for i := range a {
		sum.Add(sum, new(big.Int).Mul(big.NewInt(a[i]), big.NewInt(b[i])))
	}
	return bounded(nearest(sum, bits))
}

// sums is the table of a's numbers and so many times b's.
func sums(a, b table, times int64) (table, bool) {
	out, great := filled(0, len(a), len(a[0])), false
	for i := range a {
		for j := range a[i] {
			n, over := exact([]int64{a[i][j], b[i][j]}, []int64{1, times}, 0)
			out[i][j], great = n, great || over
		}
	}
	return out, great
}

// products is the table of a's rows times b's columns.
func products(a, b table) (table, bool) {
	columns := turned(b)
	out, great := filled(0, len(a), len(columns)), false
	for i := range a {
		for j := range columns {
			n, over := exact(a[i], columns[j], 20)
			out[i][j], great = n, great || over
		}
	}
	return out, great
}

// middles is the table of halves of a and of it turned.
func middles(a table) (table, bool) {
	out, great := filled(0, len(a), len(a)), false
	for i := range a {
		for j := range a {
			n, over := exact([]int64{a[i][j], a[j][i]}, []int64{1, 1}, 1)
			out[i][j], great = n, great || over
		}
	}
	return out, great
}

// column is a vector as a table of one column.
func column(v []int64) table { return turned(table{v}) }

// wantIs asks for just that matrix.
func wantIs(t testing.TB, what string, got mat.Mat, over bool, err error, want table, great bool) {
	t.Helper()
	if got != matOf(want) || over != great || err != nil {
		t.Errorf("%s: %v, %v, %v; want %v, %v", what, got, over, err, want, great)
	}
}

// wantNumbers asks for just that vector.
func wantNumbers(t testing.TB, what string, got []int64, over bool, err error, want []int64, great bool) {
	t.Helper()
	if !slices.Equal(got, want) || over != great || err != nil {
		t.Errorf("%s: %v, %v, %v; want %v, %v", what, got, over, err, want, great)
	}
}

// wantErr asks for ErrArg.
func wantErr(t testing.TB, what string, err error) {
	t.Helper()
	var number api.Errno
	if !errors.As(err, &number) || number != 1 {
		t.Errorf("%s: %v; want error 1", what, err)
	}
}

// wantWrong asks for ErrArg, and for nothing beside it.
func wantWrong(t testing.TB, what string, got mat.Mat, over bool, err error) {
	t.Helper()
	wantErr(t, what, err)
	if got != (mat.Mat{}) || over {
		t.Errorf("%s: %v, %v beside an error", what, got, over)
	}
}

// wantNone asks for ErrArg, and for no vector beside it.
func wantNone(t testing.TB, what string, got []int64, over bool, err error) {
	t.Helper()
	wantErr(t, what, err)
	if len(got) != 0 || over {
		t.Errorf("%s: %v, %v beside an error", what, got, over)
	}
}

// call is how a test tells of a call.
func call(name string, arguments ...any) string { return fmt.Sprintf("%s%v", name, arguments) }

func checkAdd(t testing.TB, a, b table) {
	t.Helper()
	got, over, err := mat.Add(matOf(a), matOf(b))
	want, great := sums(a, b, 1)
	wantIs(t, call("Add", a, b), got, over, err, want, great)
}

func checkSub(t testing.TB, a, b table) {
	t.Helper()
	got, over, err := mat.Sub(matOf(a), matOf(b))
	want, great := sums(a, b, -1)
	wantIs(t, call("Sub", a, b), got, over, err, want, great)
}

func checkMul(t testing.TB, a, b table) {
	t.Helper()
	got, over, err := mat.Mul(matOf(a), matOf(b))
	want, great := products(a, b)
	wantIs(t, call("Mul", a, b), got, over, err, want, great)
}

func checkApply(t testing.TB, m table, v []int64) {
	t.Helper()
	got, over, err := mat.Apply(matOf(m), v)
	want, great := products(m, column(v))
	wantNumbers(t, call("Apply", m, v), got, over, err, turned(want)[0], great)
}

func checkOuter(t testing.TB, a, b []int64) {
	t.Helper()
	got, over, err := mat.Outer(a, b)
	want, great := products(column(a), table{b})
	wantIs(t, call("Outer", a, b), got, over, err, want, great)
}

func checkEven(t testing.TB, m table) {
	t.Helper()
	got, over, err := mat.Even(matOf(m))
	want, great := middles(m)
	wantIs(t, call("Even", m), got, over, err, want, great)
}
