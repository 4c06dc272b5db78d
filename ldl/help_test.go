package ldl_test

import (
	"errors"
	"fmt"
	"math"
	"math/big"
	"math/rand"
	"slices"
	"testing"

	"radome/api"
	"radome/ldl"
	"radome/mat"
)

// The reckoner that the tests hold all answers against goes the chapter's steps by fractions of math/big, each rounded and bounded by its definition. It finds the places by rows of their own, not by an array.

const (
	top   = int64(1)<<62 - 1 // MaxTop, written out: the document says both
	most  = math.MaxInt64
	least = math.MinInt64
	unit  = int64(1) << 20 // one, in a matrix, a vector and D
	whole = int64(1) << 30 // one, in L
)

// table is the rows of a matrix, as the tests know it.
type table = [][]int64

// way is the steps of a call; over tells whether anything on it was too great.
type way struct{ over bool }

// rounded is the whole number nearest to a fraction, of two such the even one, bounded.
func (w *way) rounded(x *big.Rat) int64 {
	double := new(big.Int).Lsh(x.Denom(), 1)
	near, rest := new(big.Int).DivMod(new(big.Int).Add(new(big.Int).Lsh(x.Num(), 1), x.Denom()), double, new(big.Int))
	if rest.Sign() == 0 && near.Bit(0) == 1 {
		near.Sub(near, big.NewInt(1))
	}
	if near.CmpAbs(big.NewInt(top)) > 0 {
		w.over = true
		return int64(near.Sign()) * top
	}
	return near.Int64()
}

// fraction is n with so many bits behind the point.
func fraction(n int64, bits uint) *big.Rat {
	return new(big.Rat).SetFrac(big.NewInt(n), new(big.Int).Lsh(big.NewInt(1), bits))
}

// times is a product with so many bits behind the point.
func (w *way) times(a, b int64, bits uint) int64 {
	return w.rounded(new(big.Rat).Mul(fraction(a, 0), fraction(b, bits)))
}

// by is a quotient with so many bits behind the point.
func (w *way) by(a, b int64, bits uint) int64 {
	return w.rounded(new(big.Rat).Quo(fraction(a, 0), fraction(b, bits)))
}

// less is n less the sum of the products at all places of the list, rounded once ahead of that.
func (w *way) less(n int64, places []int, product func(k int) (int64, int64)) int64 {
	sum := new(big.Rat)
	for _, k := range places {
		a, b := product(k)
		sum.Add(sum, new(big.Rat).Mul(fraction(a, 0), fraction(b, 30)))
	}
	off := w.rounded(sum)
	return w.rounded(new(big.Rat).Sub(fraction(n, 0), fraction(off, 0)))
}

// upTo are the places from one to another one, which is not among them.
func upTo(from, to int) []int {
	var out []int
	for k := from; k < to; k++ {
		out = append(out, k)
	}
	return out
}

// steppedOf is what LD1 says of a matrix that is the same turned; whether there are factors.
func steppedOf(m table) (l table, d []int64, ok bool) {
	w := &way{}
	for i := range m {
		l = append(l, make([]int64, len(m)))
		for j := 0; j <= i; j++ {
			r := w.less(m[i][j], upTo(0, j), func(k int) (int64, int64) { return l[i][k], w.times(l[j][k], d[k], 30) })
			if j < i {
				l[i][j] = w.by(r, d[j], 30)
				continue
			}
			if w.over || r <= 0 {
				return nil, nil, false
			}
			l[i][i], d = whole, append(d, r)
		}
	}
	return l, d, true
}

// steppedDown is y of LD2.
func (w *way) steppedDown(l table, v []int64) []int64 {
	y := make([]int64, len(v))
	for i := range v {
		y[i] = w.less(v[i], upTo(0, i), func(j int) (int64, int64) { return l[i][j], y[j] })
	}
	return y
}

// steppedSolve is what LD2 says of Solve.
func steppedSolve(l table, d, v []int64) ([]int64, bool) {
	w := &way{}
	y := w.steppedDown(l, v)
	x := make([]int64, len(v))
	for last := range v {
		i := len(v) - 1 - last
		x[i] = w.less(w.by(y[i], d[i], 20), upTo(i+1, len(v)), func(j int) (int64, int64) { return l[j][i], x[j] })
	}
	return x, w.over
}

// steppedFar is what LD2 says of Far.
func steppedFar(l table, d, v []int64) (int64, bool) {
	w := &way{}
	all := int64(0)
	for i, y := range w.steppedDown(l, v) {
		part := w.by(w.times(y, y, 20), d[i], 20)
		all = w.rounded(new(big.Rat).Add(fraction(all, 0), fraction(part, 0)))
	}
	return all, w.over
}

// matOf is the matrix of a table, laid down without a call of package mat.
func matOf(rows table) mat.Mat {
	out := mat.Mat{Rows: len(rows), Cols: len(rows[0])}
	for place, n := range slices.Concat(rows...) {
		out.A[place] = n
	}
	return out
}

// factorsOf are factors laid down without a call of the package.
func factorsOf(l table, d []int64) ldl.Factors {
	out := ldl.Factors{N: len(d)}
	for place, n := range slices.Concat(l...) {
		out.L[place] = n
	}
	for i, n := range d {
		out.D[i] = n
	}
	return out
}

// lower are the rows of L with ones in the middle; those below them are given row by row.
func lower(n int, numbers ...int64) table {
	out := make(table, n)
	for i := range out {
		out[i] = make([]int64, n)
		copy(out[i][:i], numbers)
		numbers = numbers[min(i, len(numbers)):]
		out[i][i] = whole
	}
	return out
}

// even is the table of which those up to the middle are given, row by row.
func even(numbers ...int64) table {
	var out table
	for i := 0; len(numbers) > 0; i++ {
		out = append(out, slices.Clone(numbers[:i+1]))
		numbers = numbers[i+1:]
	}
	for i := range out {
		for j := i + 1; j < len(out); j++ {
			out[i] = append(out[i], out[j][i])
		}
	}
	return out
}

// filled is a vector of so many times n.
func filled(n int64, parts int) []int64 { return slices.Repeat([]int64{n}, parts) }

// scaled is a vector all of whose parts are so many times greater.
func scaled(k int64, numbers ...int64) []int64 {
	out := slices.Clone(numbers)
	for i := range out {
		out[i] *= k
	}
	return out
}

// edges are the numbers that the document names, powers of two, and their neighbours, of both signs.
func edges() []int64 {
	out := []int64{0, most, most - 1, least, least + 1}
	for _, n := range []int64{1, 2, 3, unit / 2, unit, unit + unit/2, whole / 2, whole, whole + whole/2, 1 << 31, 1 << 41, 1 << 42, 1 << 52, 1 << 61, 1 << 62} {
		out = append(out, n-1, n, n+1, 1-n, -n, -n-1)
	}
	return append(out, top-1, -top+1)
}

// random is a number of at most so many bits and of any sign; often most of its lower bits are noughts or ones, where halves and carries are found.
func random(r *rand.Rand, bits int) int64 {
	n := int64(r.Uint64()) >> (63 - r.Intn(bits+1))
	low := int64(1)<<r.Intn(bits) - 1
	switch r.Intn(4) {
	case 0:
		n &^= low
	case 1:
		n |= low
	case 2:
		n = n&^low | (low+1)/2
	}
	return n
}

// above is a number from 1 to MaxTop, of at most so many bits.
func above(r *rand.Rand, bits int) int64 {
	n := random(r, min(bits, 61))
	return max(n, -n, 1)
}

// vector is so many numbers of at most so many bits, some of them edges if all may be great.
func vector(r *rand.Rand, parts, bits int) []int64 {
	all := edges()
	out := make([]int64, parts)
	for i := range out {
		out[i] = random(r, bits)
		if bits == 63 && r.Intn(3) == 0 {
			out[i] = all[r.Intn(len(all))]
		}
	}
	return out
}

// randomFactors are L of numbers of at most so many bits, and D of others.
func randomFactors(r *rand.Rand, n, bits, bitsOfD int) (table, []int64) {
	l, d := lower(n), make([]int64, n)
	for i := range l {
		for j := range i {
			l[i][j] = random(r, min(bits, 61))
		}
		d[i] = above(r, bitsOfD)
	}
	return l, d
}

// made is what factors make together, exactly.
func made(l table, d []int64, i, j int) *big.Rat {
	sum := new(big.Rat)
	for k := range d {
		both := new(big.Rat).Mul(fraction(l[i][k], 30), fraction(l[j][k], 30))
		sum.Add(sum, both.Mul(both, fraction(d[k], 0)))
	}
	return sum
}

// madeTable is what factors make together, rounded; whether all of it are numbers within MaxTop's size.
func madeTable(l table, d []int64) (table, bool) {
	w := &way{}
	out := make(table, len(d))
	for i := range d {
		for j := range d {
			out[i] = append(out[i], w.rounded(made(l, d, i, j)))
		}
	}
	return out, !w.over
}

// randomEven is a matrix that is the same turned; some are made of factors, so that they have some.
func randomEven(r *rand.Rand, n int) table {
	if r.Intn(3) == 0 {
		return even(vector(r, n*(n+1)/2, 1+r.Intn(63))...)
	}
	l, d := randomFactors(r, n, 1+r.Intn(33), 1+r.Intn(61))
	m, ok := madeTable(l, d)
	for !ok {
		l, d = randomFactors(r, n, 1+r.Intn(31), 1+r.Intn(58))
		m, ok = madeTable(l, d)
	}
	for i := range m {
		m[i][i] += int64(r.Intn(5)) << r.Intn(40)
	}
	return m
}

// call is how a test tells of a call.
func call(name string, arguments ...any) string { return fmt.Sprintf("%s%v", name, arguments) }

// wantErr asks for an error of that number.
func wantErr(t testing.TB, what string, err error, number api.Errno) {
	t.Helper()
	var got api.Errno
	if !errors.As(err, &got) || got != number {
		t.Errorf("%s: %v; want error %d", what, err, number)
	}
}

// wantOf asks for just those factors of a matrix.
func wantOf(t testing.TB, m, l table, d []int64) {
	t.Helper()
	if got, err := ldl.Of(matOf(m)); got != factorsOf(l, d) || err != nil {
		t.Errorf("Of(%v): %v, %v; want %v, %v", m, got, err, l, d)
	}
}

// wantNoFactors asks for that error, and for nothing beside it.
func wantNoFactors(t testing.TB, m mat.Mat, number api.Errno) {
	t.Helper()
	got, err := ldl.Of(m)
	wantErr(t, call("Of", m), err, number)
	if got != (ldl.Factors{}) {
		t.Errorf("Of(%v): %v beside an error", m, got)
	}
}

// wantSolve asks for just that vector.
func wantSolve(t testing.TB, l table, d, v, want []int64, great bool) {
	t.Helper()
	if got, over, err := ldl.Solve(factorsOf(l, d), v); !slices.Equal(got, want) || over != great || err != nil {
		t.Errorf("Solve(%v, %v, %v): %v, %v, %v; want %v, %v", l, d, v, got, over, err, want, great)
	}
}

// wantFar asks for just that number.
func wantFar(t testing.TB, l table, d, v []int64, want int64, great bool) {
	t.Helper()
	if got, over, err := ldl.Far(factorsOf(l, d), v); got != want || over != great || err != nil {
		t.Errorf("Far(%v, %v, %v): %v, %v, %v; want %v, %v", l, d, v, got, over, err, want, great)
	}
}

// wantWrongFactors asks for ErrArg of Solve and Far, and for nothing beside it.
func wantWrongFactors(t testing.TB, f ldl.Factors, v []int64) {
	t.Helper()
	x, over, err := ldl.Solve(f, v)
	wantErr(t, call("Solve", f, v), err, 1)
	if len(x) != 0 || over {
		t.Errorf("Solve(%v, %v): %v, %v beside an error", f, v, x, over)
	}
	far, over, err := ldl.Far(f, v)
	wantErr(t, call("Far", f, v), err, 1)
	if far != 0 || over {
		t.Errorf("Far(%v, %v): %v, %v beside an error", f, v, far, over)
	}
}

// checkOf holds a matrix that is the same turned against the steps; whether there are factors.
func checkOf(t testing.TB, m table) bool {
	t.Helper()
	l, d, ok := steppedOf(m)
	if ok {
		wantOf(t, m, l, d)
	} else {
		wantNoFactors(t, matOf(m), 8)
	}
	return ok
}

// checkSolve holds factors and a vector against the steps; whether something was too great.
func checkSolve(t testing.TB, l table, d, v []int64) bool {
	t.Helper()
	want, great := steppedSolve(l, d, v)
	wantSolve(t, l, d, v, want, great)
	return great
}

// checkFar holds factors and a vector against the steps; whether something was too great.
func checkFar(t testing.TB, l table, d, v []int64) bool {
	t.Helper()
	want, great := steppedFar(l, d, v)
	wantFar(t, l, d, v, want, great)
	return great
}
