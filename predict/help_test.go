package predict_test

import (
	"errors"
	"fmt"
	"math"
	"math/big"
	"math/rand"
	"testing"

	"radome/api"
	"radome/mat"
	"radome/model"
	"radome/predict"
)

// The reckoner that the tests hold all answers against goes the chapter's steps by math/big, on tables of rows: each number exactly, then rounded and bounded by their definitions. Of the program it knows nothing but how a Mat is laid down.

const (
	top   = int64(1)<<62 - 1 // MaxTop, written out: the document says both
	most  = math.MaxInt64
	least = math.MinInt64
	unit  = int64(1) << 20 // one, and a second
)

// table is six rows of six numbers.
type table = [6][6]int64

// vector is the six parts of a state.
type vector = [6]int64

// nearest is the whole number nearest to n by 2 to the power of bits, of two such the even one.
func nearest(n *big.Int, bits uint) *big.Int {
	by := new(big.Int).Lsh(big.NewInt(1), bits)
	near, rest := new(big.Int).DivMod(n, by, new(big.Int))
	side := rest.Lsh(rest, 1).Cmp(by)
	if side > 0 || side == 0 && near.Bit(0) == 1 {
		near.Add(near, big.NewInt(1))
	}
	return near
}

// summed is the exact sum of all products of both.
func summed(a, b []int64) *big.Int {
	sum := new(big.Int)
	for i := range a {
		sum.Add(sum, new(big.Int).Mul(big.NewInt(a[i]), big.NewInt(b[i])))
	}
	return sum
}

// near is that sum by 2 to the power of bits, rounded and bounded; whether it was too great.
func near(a, b []int64, bits uint) (int64, bool) {
	n := nearest(summed(a, b), bits)
	if n.CmpAbs(big.NewInt(top)) > 0 {
		return int64(n.Sign()) * top, true
	}
	return n.Int64(), false
}

// each is the table whose numbers are told by number; whether one was too great.
func each(number func(i, j int) (int64, bool)) (out table, great bool) {
	for i := range 6 {
		for j := range 6 {
			n, over := number(i, j)
			out[i][j], great = n, great || over
		}
	}
	return out, great
}

func turned(a table) table {
	out, _ := each(func(i, j int) (int64, bool) { return a[j][i], false })
	return out
}

// times is the product of a and of b, whose rows are handed in as columns.
func times(a, columns table) (table, bool) {
	return each(func(i, j int) (int64, bool) { return near(a[i][:], columns[j][:], 20) })
}

func plus(a, b table) (table, bool) {
	return each(func(i, j int) (int64, bool) { return near([]int64{a[i][j], b[i][j]}, []int64{1, 1}, 0) })
}

// middle is that of a table, and it turned.
func middle(a table) (table, bool) {
	return each(func(i, j int) (int64, bool) { return near([]int64{a[i][j], a[j][i]}, []int64{1, 1}, 1) })
}

// The steps of Next, each of which may be too great.
const (
	stepX = iota
	firstProduct
	secondProduct
	withNoise
	madeEven
	allSteps
)

// reckoned is what PD2 says, and which of its steps were too great.
func reckoned(x vector, p, step, noise table) (predict.State, [allSteps]bool) {
	var out predict.State
	var great [allSteps]bool
	for i := range 6 {
		n, over := near(step[i][:], x[:], 20)
		out.X[i], great[stepX] = n, great[stepX] || over
	}
	p, great[firstProduct] = times(step, turned(p))
	p, great[secondProduct] = times(p, step)
	p, great[withNoise] = plus(p, noise)
	p, great[madeEven] = middle(p)
	for i := range 6 {
		p[i][i] = max(0, p[i][i])
	}
	out.P = matOf(p)
	return out, great
}

// matOf is the matrix of a table, laid down without a call of the program.
func matOf(l table) mat.Mat {
	out := mat.Mat{Rows: 6, Cols: 6}
	for i, row := range l {
		copy(out.A[6*i:], row[:])
	}
	return out
}

// tableOf is a matrix of six rows and columns as a table.
func tableOf(m mat.Mat) table {
	var out table
	for i := range out {
		copy(out[i][:], m.A[6*i:])
	}
	return out
}

func stateOf(x vector, p table) predict.State { return predict.State{X: x, P: matOf(p)} }

// onDiagonal is a table of noughts but for these.
func onDiagonal(numbers ...int64) table {
	var out table
	for i, n := range numbers {
		out[i][i] = n
	}
	return out
}

// ones is the step that changes nothing.
func ones() table { return onDiagonal(unit, unit, unit, unit, unit, unit) }

// filled is a table all of whose numbers are n.
func filled(n int64) table {
	var out table
	for i := range out {
		out[i] = allOf(n)
	}
	return out
}

// allOf is a vector all of whose parts are n.
func allOf(n int64) vector { return vector{n, n, n, n, n, n} }

// place is a number at a row and a column.
type place struct {
	i, j int
	n    int64
}

// with is a table with other numbers at some places.
func with(l table, places ...place) table {
	for _, at := range places {
		l[at.i][at.j] = at.n
	}
	return l
}

// hollow is a table with noughts on its diagonal, told place by place: Go 1.27.3 fails at compiling a loop of l[i][i] = 0.
func hollow(l table) table {
	return with(l, place{0, 0, 0}, place{1, 1, 0}, place{2, 2, 0}, place{3, 3, 0}, place{4, 4, 0}, place{5, 5, 0})
}

// both is a table with another number at some places, and at the turned ones.
func both(l table, places ...place) table {
	for _, at := range places {
		l[at.i][at.j], l[at.j][at.i] = at.n, at.n
	}
	return l
}

// call is how a test tells of a call.
func call(name string, arguments ...any) string { return fmt.Sprintf("%s%v", name, arguments) }

// wantState asks for just that state, without an error.
func wantState(t testing.TB, what string, got predict.State, over bool, err error, want predict.State, great bool) {
	t.Helper()
	if got != want || over != great || err != nil {
		t.Errorf("%s: %v, %v, %v; want %v, %v", what, got, over, err, want, great)
	}
}

// wantArg asks for the error of a wrong argument.
func wantArg(t testing.TB, what string, err error) {
	t.Helper()
	var number api.Errno
	if !errors.As(err, &number) || number != 1 {
		t.Errorf("%s: error %v; want 1", what, err)
	}
}

// wantWrong asks for that error, and for nothing beside it.
func wantWrong(t testing.TB, what string, got predict.State, over bool, err error) {
	t.Helper()
	wantArg(t, what, err)
	if got != (predict.State{}) || over {
		t.Errorf("%s: %v, %v beside an error", what, got, over)
	}
}

// checkNext asks for what PD2 says; it answers which steps were too great.
func checkNext(t testing.TB, x vector, p, step, noise table) [allSteps]bool {
	t.Helper()
	want, steps := reckoned(x, p, step, noise)
	got, over, err := predict.Next(stateOf(x, p), matOf(step), matOf(noise))
	wantState(t, call("Next", x, p, step, noise), got, over, err, want, steps != [allSteps]bool{})
	return steps
}

// edges are numbers of up to MaxTop's size: the document's, powers of two, and their neighbours, of both signs.
func edges() []int64 {
	out := []int64{0, top, -top, top - 1, 1 - top}
	for _, n := range []int64{1, 2, 3, unit / 2, unit, unit + unit/2, 1 << 31, 1 << 41, 1 << 42, 1 << 61} {
		out = append(out, n-1, n, n+1, 1-n, -n, -n-1)
	}
	return out
}

// beyond are numbers that are beyond MaxTop's size.
var beyond = []int64{top + 1, -top - 1, top + 2, -top - 2, most, most - 1, least, least + 1}

// random is a number of at most so many bits beside its sign; often most of its lower bits are noughts or ones, where halves and carries are found.
func random(r *rand.Rand, bits int) int64 {
	n := int64(r.Uint64()) >> (63 - bits + r.Intn(bits))
	low := int64(1)<<r.Intn(bits) - 1
	switch r.Intn(4) {
	case 0:
		n &^= low
	case 1:
		n |= low
	case 2:
		n = n&^low | (low+1)/2
	}
	return n
}

// randomState is one that may be, of numbers of at most so many bits; sometimes some are as great as may be.
func randomState(r *rand.Rand, bits int) (x vector, p table) {
	number := func() int64 { return max(-top, min(top, random(r, bits))) }
	if r.Intn(8) == 0 {
		all := edges()
		number = func() int64 { return all[r.Intn(len(all))] }
	}
	for i := range 6 {
		x[i] = number()
		for j := range i {
			p = both(p, place{i, j, number()})
		}
		p[i][i] = max(number(), 0)
		if n := number(); n >= 0 {
			p[i][i] = n
		}
	}
	return x, p
}

// randomTable is one of any numbers of at most so many bits, with many noughts among them at times.
func randomTable(r *rand.Rand, bits int) table {
	noughts := r.Intn(4)
	out, _ := each(func(_, _ int) (int64, bool) {
		if r.Intn(4) < noughts {
			return 0, false
		}
		return random(r, bits), false
	})
	return out
}

// randomModel is one of layer 11 that may be.
func randomModel(r *rand.Rand) model.Model {
	m := model.Model{Kind: r.Intn(4), Noise: 1 + r.Int63n(1<<30)>>r.Intn(30)}
	if m.Kind >= model.Left {
		m.Rate = 1<<20 + r.Int63n(1<<28-1<<20+1)>>r.Intn(9)
	}
	return m
}

// modelOf is layer 11's step and noise.
func modelOf(t testing.TB, m model.Model, dt int64) (step, noise table) {
	t.Helper()
	s, _, err := model.Step(m, dt)
	n, _, err2 := model.Noise(m, dt)
	if err != nil || err2 != nil {
		t.Fatalf("%v, %d: %v, %v", m, dt, err, err2)
	}
	return tableOf(s), tableOf(n)
}
