package update_test

import (
	"errors"
	"fmt"
	"math"
	"math/big"
	"math/rand"
	"testing"

	"radome/api"
	"radome/ldl"
	"radome/mat"
	"radome/polar"
	"radome/predict"
	"radome/update"
)

// The reckoner that the tests hold all answers against goes the chapter's steps by math/big, on tables of rows: each number exactly, then rounded and bounded by their definitions. Of the program it knows nothing but how a Mat and Factors are laid down.

const (
	top   = int64(1)<<62 - 1 // MaxTop, written out: the document says both
	most  = math.MaxInt64
	least = math.MinInt64
	unit  = int64(1) << 20 // one
	whole = int64(1) << 30 // one in L
)

// The steps, each of which may be too great, or have just a half to round.
const (
	stepV    = iota // how far the place is
	stepS           // the matrix of both spreads
	stepK           // layer 9's Solve
	stepKV          // K times V
	stepX           // that, and X
	stepB           // ones less K
	stepBP          // B times P
	stepBPB         // that times B turned
	stepKR          // K times R
	stepKRK         // that times K turned
	stepSum         // both together
	stepEven        // the middle
	allSteps
)

// which are some of the steps.
type which [allSteps]bool

// those are the steps that are named.
func those(steps ...int) (out which) {
	for _, step := range steps {
		out[step] = true
	}
	return out
}

// table is six rows of six numbers.
type table = [6][6]int64

// vector is the six parts of a state.
type vector = [6]int64

// rows is a matrix of any size.
type rows = [][]int64

// way goes step by step, and remembers of each whether it was too great, and whether something was halfway between two numbers.
type way struct {
	step        int
	great, half which
}

// near is the whole number nearest to n by another one, of two such the even one; bounded.
func (w *way) near(n, by *big.Int) int64 {
	near, rest := new(big.Int).DivMod(n, by, new(big.Int))
	side := rest.Lsh(rest, 1).Cmp(by)
	w.half[w.step] = w.half[w.step] || side == 0
	if side > 0 || side == 0 && near.Bit(0) == 1 {
		near.Add(near, big.NewInt(1))
	}
	if near.CmpAbs(big.NewInt(top)) > 0 {
		w.great[w.step] = true
		return int64(near.Sign()) * top
	}
	return near.Int64()
}

func power(bits uint) *big.Int { return new(big.Int).Lsh(big.NewInt(1), bits) }

// dot is the sum of all products, by 2 to the power of bits.
func (w *way) dot(a, b []int64, bits uint) int64 {
	sum := new(big.Int)
	for i := range a {
		sum.Add(sum, new(big.Int).Mul(big.NewInt(a[i]), big.NewInt(b[i])))
	}
	return w.near(sum, power(bits))
}

func (w *way) times(a, b int64, bits uint) int64 { return w.dot([]int64{a}, []int64{b}, bits) }

func (w *way) plus(a, b int64) int64 { return w.dot([]int64{a, b}, []int64{1, 1}, 0) }

func (w *way) less(a, b int64) int64 { return w.dot([]int64{a, b}, []int64{1, -1}, 0) }

// by is a times 2 to the power of bits, by b, which is above 0.
func (w *way) by(a, b int64, bits uint) int64 {
	return w.near(new(big.Int).Lsh(big.NewInt(a), bits), big.NewInt(b))
}

// pair is what a matrix of two rows and columns is made of: one number of L, two of D.
type pair struct{ l, d0, d1 int64 }

// factored is what LD1 makes of a matrix that is the same turned; whether there is such.
func factored(xx, xy, yy int64) (pair, bool) {
	if xx <= 0 {
		return pair{}, false
	}
	var w way
	l := w.by(xy, xx, 30)
	rest := w.less(yy, w.times(l, w.times(l, xx, 30), 30))
	return pair{l, xx, rest}, rest > 0 && w.great == which{}
}

// solved is what LD2's Solve says of two numbers.
func (w *way) solved(f pair, a, b int64) []int64 {
	y1 := w.less(b, w.times(f.l, a, 30))
	x1 := w.by(y1, f.d1, 20)
	return []int64{w.less(w.by(a, f.d0, 20), w.times(f.l, x1, 30)), x1}
}

// reckonedFar is what LD2's Far says of two numbers; whether anything was too great.
func reckonedFar(f pair, v [2]int64) (int64, bool) {
	var w way
	y0 := w.plus(v[0], 0)
	y1 := w.less(v[1], w.times(f.l, y0, 30))
	first := w.by(w.times(y0, y0, 20), f.d0, 20)
	all := w.plus(first, w.by(w.times(y1, y1, 20), f.d1, 20))
	return all, w.great != which{}
}

// mul is the product of a and b.
func (w *way) mul(step int, a, b rows) rows {
	w.step = step
	out := make(rows, len(a))
	for i := range a {
		for j := range b[0] {
			column := make([]int64, len(b))
			for k := range b {
				column[k] = b[k][j]
			}
			out[i] = append(out[i], w.dot(a[i], column, 20))
		}
	}
	return out
}

func turned(a rows) rows {
	out := make(rows, len(a[0]))
	for i := range out {
		for j := range a {
			out[i] = append(out[i], a[j][i])
		}
	}
	return out
}

func rowsOf(l table) rows {
	var out rows
	for _, row := range l {
		out = append(out, append([]int64{}, row[:]...))
	}
	return out
}

// gap is what UD1 says; whether there are factors.
func (w *way) gap(x vector, p table, seen polar.Seen) (v [2]int64, f pair, ok bool) {
	w.step = stepV
	v = [2]int64{w.less(seen.X, x[0]), w.less(seen.Y, x[3])}
	w.step = stepS
	f, ok = factored(w.plus(p[0][0], seen.XX), w.plus(p[0][3], seen.XY), w.plus(p[3][3], seen.YY))
	return v, f, ok
}

// spread is what UD2 says of P, with K's rows.
func (w *way) spread(p table, k rows, seen polar.Seen) table {
	b := rowsOf(ones())
	w.step = stepB
	for i, row := range k {
		b[i][0], b[i][3] = w.less(b[i][0], row[0]), w.less(b[i][3], row[1])
	}
	left := w.mul(stepBPB, w.mul(stepBP, b, rowsOf(p)), turned(b))
	taken := w.mul(stepKRK, w.mul(stepKR, k, rows{{seen.XX, seen.XY}, {seen.XY, seen.YY}}), turned(k))
	w.step = stepSum
	for i := range left {
		for j := range left {
			left[i][j] = w.plus(left[i][j], taken[i][j])
		}
	}
	w.step = stepEven
	var out table
	for i := range out {
		for j := range out {
			if out[i][j] = w.dot([]int64{left[i][j], left[j][i]}, []int64{1, 1}, 1); i == j {
				out[i][j] = max(out[i][j], 0)
			}
		}
	}
	return out
}

// next is what UD2 says; whether there are factors.
func (w *way) next(x vector, p table, seen polar.Seen) (vector, table, bool) {
	v, f, ok := w.gap(x, p, seen)
	if !ok {
		return vector{}, table{}, false
	}
	var k rows
	w.step = stepK
	for i := range 6 {
		k = append(k, w.solved(f, p[i][0], p[i][3]))
	}
	for i := range 6 {
		w.step = stepKV
		n := w.dot(k[i], v[:], 20)
		w.step = stepX
		x[i] = w.plus(x[i], n)
	}
	return x, w.spread(p, k, seen), true
}

// matOf is the matrix of a table, laid down without a call of the program.
func matOf(l table) mat.Mat {
	out := mat.Mat{Rows: 6, Cols: 6}
	for i, row := range l {
		copy(out.A[6*i:], row[:])
	}
	return out
}

// tableOf is a matrix of six rows and columns as a table.
func tableOf(m mat.Mat) table {
	var out table
	for i := range out {
		copy(out[i][:], m.A[6*i:])
	}
	return out
}

func stateOf(x vector, p table) predict.State { return predict.State{X: x, P: matOf(p)} }

func (f pair) factors() ldl.Factors {
	return ldl.Factors{N: 2, L: [36]int64{whole, 0, f.l, whole}, D: [6]int64{f.d0, f.d1}}
}

// onDiagonal is a table of noughts but for these.
func onDiagonal(numbers ...int64) table {
	var out table
	for i, n := range numbers {
		out[i][i] = n
	}
	return out
}

func ones() table { return onDiagonal(unit, unit, unit, unit, unit, unit) }

// place is a number at a row and a column.
type place struct {
	i, j int
	n    int64
}

// with is a table with other numbers at some places.
func with(l table, places ...place) table {
	for _, at := range places {
		l[at.i][at.j] = at.n
	}
	return l
}

// both is a table with another number at some places, and at the turned ones.
func both(l table, places ...place) table {
	for _, at := range places {
		l[at.i][at.j], l[at.j][at.i] = at.n, at.n
	}
	return l
}

// swapped is a state and a place with x and y taken for each other.
func swapped(x vector, p table, seen polar.Seen) (vector, table, polar.Seen) {
	order := [6]int{3, 4, 5, 0, 1, 2}
	var outX vector
	var outP table
	for i, from := range order {
		outX[i] = x[from]
		for j, other := range order {
			outP[i][j] = p[from][other]
		}
	}
	return outX, outP, polar.Seen{X: seen.Y, Y: seen.X, XX: seen.YY, YY: seen.XX, XY: seen.XY}
}

// call is how a test tells of a call.
func call(name string, arguments ...any) string { return fmt.Sprintf("%s%v", name, arguments) }

// wantErr asks for an error of that number.
func wantErr(t testing.TB, what string, err error, number api.Errno) {
	t.Helper()
	var got api.Errno
	if !errors.As(err, &got) || got != number {
		t.Errorf("%s: error %v; want %d", what, err, number)
	}
}

// wantNothing asks for that error of Of and of Next, and for nothing beside it.
func wantNothing(t testing.TB, s predict.State, seen polar.Seen, number api.Errno) {
	t.Helper()
	gap, over, err := update.Of(s, seen)
	wantErr(t, call("Of", s, seen), err, number)
	if gap != (update.Gap{}) || over {
		t.Errorf("Of(%v, %v): %v, %v beside an error", s, seen, gap, over)
	}
	next, over, err := update.Next(s, seen)
	wantErr(t, call("Next", s, seen), err, number)
	if next != (predict.State{}) || over {
		t.Errorf("Next(%v, %v): %v, %v beside an error", s, seen, next, over)
	}
}

// wantOf asks for just that gap.
func wantOf(t testing.TB, s predict.State, seen polar.Seen, v [2]int64, f pair, great bool) {
	t.Helper()
	want := update.Gap{V: v, F: f.factors()}
	if got, over, err := update.Of(s, seen); got != want || over != great || err != nil {
		t.Errorf("Of(%v, %v): %v, %v, %v; want %v, %v", s, seen, got, over, err, want, great)
	}
}

// wantNext asks for just that state.
func wantNext(t testing.TB, s predict.State, seen polar.Seen, x vector, p table, great bool) {
	t.Helper()
	want := stateOf(x, p)
	if got, over, err := update.Next(s, seen); got != want || over != great || err != nil {
		t.Errorf("Next(%v, %v): %v, %v, %v; want %v, %v", s, seen, got, over, err, want, great)
	}
}

// check asks Of and Next for what UD1 and UD2 say; it answers the way there, and whether there are factors.
func check(t testing.TB, x vector, p table, seen polar.Seen) (way, bool) {
	t.Helper()
	var w, first way
	s := stateOf(x, p)
	v, f, ok := first.gap(x, p, seen)
	if !ok {
		wantNothing(t, s, seen, 8)
		return first, false
	}
	wantOf(t, s, seen, v, f, first.great != which{})
	wantX, wantP, _ := w.next(x, p, seen)
	wantNext(t, s, seen, wantX, wantP, w.great != which{})
	return w, true
}

// edges are numbers of up to MaxTop's size: the document's, powers of two, and their neighbours, of both signs.
func edges() []int64 {
	out := []int64{0, top, -top, top - 1, 1 - top}
	for _, n := range []int64{1, 2, 3, unit / 2, unit, unit + unit/2, whole, 1 << 31, 1 << 41, 1 << 42, 1 << 61} {
		out = append(out, n-1, n, n+1, 1-n, -n, -n-1)
	}
	return out
}

// beyond are numbers that are beyond MaxTop's size.
var beyond = []int64{top + 1, -top - 1, top + 2, -top - 2, most, most - 1, least, least + 1}

// random is a number of at most so many bits beside its sign, and of MaxTop's size; often most of its lower bits are noughts or ones, where halves and carries are found.
func random(r *rand.Rand, bits int) int64 {
	n := int64(r.Uint64()) >> (63 - bits + r.Intn(bits))
	low := int64(1)<<r.Intn(bits) - 1
	switch r.Intn(4) {
	case 0:
		n &^= low
	case 1:
		n |= low
	case 2:
		n = n&^low | (low+1)/2
	}
	return max(-top, min(top, n))
}

// above is such a number that is not below 0.
func above(r *rand.Rand, bits int) int64 {
	n := random(r, bits)
	return max(n, -n)
}

// randomState is one that may be, of numbers of at most so many bits; sometimes all are edges.
func randomState(r *rand.Rand, bits int) (x vector, p table) {
	number := func() int64 { return random(r, bits) }
	if r.Intn(8) == 0 {
		all := edges()
		number = func() int64 { return all[r.Intn(len(all))] }
	}
	for i := range 6 {
		x[i] = number()
		for j := range i {
			p = both(p, place{i, j, number()})
		}
		n := number()
		p[i][i] = max(n, -n)
	}
	return x, p
}

// randomSeen is a place that may be.
func randomSeen(r *rand.Rand, bits int) polar.Seen {
	out := polar.Seen{X: random(r, bits), Y: random(r, bits), XX: above(r, bits), YY: above(r, bits), XY: random(r, bits)}
	switch r.Intn(4) {
	case 0:
		out.XY = 0
	case 1:
		out.XY >>= 1 + r.Intn(20)
	}
	return out
}

// randomSpread is a P that something may have: the sum of what six vectors, of at most half so many bits and of at most 28, make with themselves.
func randomSpread(r *rand.Rand, bits int) table {
	var out table
	for range 6 {
		var v vector
		for i := range v {
			v[i] = random(r, min(bits/2, 28))
		}
		for i := range v {
			for j := range v {
				out[i][j] += v[i] * v[j]
			}
		}
	}
	return out
}
