package mix_test

import (
	"errors"
	"fmt"
	"math"
	"math/big"
	"math/rand"
	"slices"
	"testing"

	"radome/api"
	"radome/mat"
	"radome/mix"
	"radome/predict"
)

// The reckoner that the tests hold all answers against goes the chapter's steps by math/big, on tables of rows: each number exactly, then rounded and bounded by their definitions. Of the program it knows nothing but how a Mat is laid down.

const (
	top   = int64(1)<<62 - 1 // MaxTop, written out: the document says both
	most  = math.MaxInt64
	least = math.MinInt64
	unit  = int64(1) << 20 // one metre
	one   = int64(1) << 30 // what chances sum to
)

// The steps, each of which may be too great, or have just a half to round.
const (
	stepX     = iota // layer 7's Join of all X
	stepAway         // d
	stepOuter        // d times d
	stepAdd          // that and P
	stepSum          // of all, by their chances
	stepEven         // the middle
	allSteps
)

// which are some of the steps.
type which [allSteps]bool

// those are the steps that are named.
func those(steps ...int) (out which) {
	for _, step := range steps {
		out[step] = true
	}
	return out
}

// table is six rows of six numbers.
type table = [6][6]int64

// vector is the six parts of a state.
type vector = [6]int64

// state is a predict.State as a vector and a table.
type state struct {
	x vector
	p table
}

// way goes step by step, and remembers of each whether it was too great, and whether something was halfway between two numbers.
type way struct {
	step        int
	great, half which
}

// near is the whole number nearest to the sum of all products by 2 to the power of bits, of two such the even one; bounded.
func (w *way) near(a, b []int64, bits uint) int64 {
	by := new(big.Int).Lsh(big.NewInt(1), bits)
	n, rest := new(big.Int).DivMod(summed(a, b), by, new(big.Int))
	side := rest.Lsh(rest, 1).Cmp(by)
	w.half[w.step] = w.half[w.step] || side == 0
	if side > 0 || side == 0 && n.Bit(0) == 1 {
		n.Add(n, big.NewInt(1))
	}
	if n.CmpAbs(big.NewInt(top)) > 0 {
		w.great[w.step] = true
		return int64(n.Sign()) * top
	}
	return n.Int64()
}

// summed is the exact sum of all products of both.
func summed(a, b []int64) *big.Int {
	sum := new(big.Int)
	for i := range a {
		sum.Add(sum, new(big.Int).Mul(big.NewInt(a[i]), big.NewInt(b[i])))
	}
	return sum
}

// about is P of a state, and d times d, with d as its X less another one.
func (w *way) about(s state, x vector) table {
	var d vector
	var out table
	w.step = stepAway
	for i := range d {
		d[i] = w.near([]int64{s.x[i], x[i]}, []int64{1, -1}, 0)
	}
	for i := range out {
		for j := range out {
			w.step = stepOuter
			n := w.near([]int64{d[i]}, []int64{d[j]}, 20)
			w.step = stepAdd
			out[i][j] = w.near([]int64{s.p[i][j], n}, []int64{1, 1}, 0)
		}
	}
	return out
}

// at are the numbers at one place of some tables.
func at(l []table, i, j int) []int64 {
	var out []int64
	for _, p := range l {
		out = append(out, p[i][j])
	}
	return out
}

// join is what MX2 says.
func (w *way) join(l []state, chances []int64) (out state) {
	w.step = stepX
	for i := range out.x {
		var parts []int64
		for _, s := range l {
			parts = append(parts, s.x[i])
		}
		out.x[i] = w.near(parts, chances, 30)
	}
	var each []table
	for _, s := range l {
		each = append(each, w.about(s, out.x))
	}
	var all table
	w.step = stepSum
	for i := range all {
		for j := range all {
			all[i][j] = w.near(at(each, i, j), chances, 30)
		}
	}
	w.step = stepEven
	for i := range all {
		for j := range all {
			out.p[i][j] = w.near([]int64{all[i][j], all[j][i]}, []int64{1, 1}, 1)
		}
	}
	for i := range 6 {
		if out.p[i][i] < 0 {
			out.p = with(out.p, place{i, i, 0})
		}
	}
	return out
}

// parted is 2^30 by shares, as layer 14 says.
func parted(weights []*big.Int) []int64 {
	all := new(big.Int)
	for _, n := range weights {
		all.Add(all, n)
	}
	out, places := make([]int64, len(weights)), make([]int, len(weights))
	cut := make([]*big.Rat, len(weights))
	left := one
	for i, n := range weights {
		part := new(big.Rat).SetFrac(new(big.Int).Mul(big.NewInt(one), n), all)
		down := new(big.Int).Div(part.Num(), part.Denom())
		cut[i] = part.Sub(part, new(big.Rat).SetInt(down))
		out[i], places[i] = down.Int64(), i
		left -= out[i]
	}
	slices.SortStableFunc(places, func(a, b int) int { return cut[b].Cmp(cut[a]) })
	for _, place := range places[:left] {
		out[place]++
	}
	return out
}

// reckonedShares is what MX1 says.
func reckonedShares(chances []int64, rows [][]int64, to int) []int64 {
	var weights []*big.Int
	nothing := true
	for i, n := range chances {
		product := summed([]int64{n}, []int64{rows[i][to]})
		weights, nothing = append(weights, product), nothing && product.Sign() == 0
	}
	if nothing {
		return alone(to, len(chances))
	}
	return parted(weights)
}

// reckonedThen is layer 14's Mix.
func reckonedThen(chances []int64, rows [][]int64) []int64 {
	var weights []*big.Int
	for to := range chances {
		weights = append(weights, summed(chances, column(rows, to)))
	}
	return parted(weights)
}

// column is what all rows have at a place.
func column(rows [][]int64, to int) []int64 {
	var out []int64
	for _, row := range rows {
		out = append(out, row[to])
	}
	return out
}

// all is what MX3 says.
func (w *way) all(l []state, chances []int64, rows [][]int64) ([]state, []int64) {
	var out []state
	for to := range l {
		out = append(out, w.join(l, reckonedShares(chances, rows, to)))
	}
	return out, reckonedThen(chances, rows)
}

// given is the state as the program has it, laid down without a call of it.
func (s state) given() predict.State {
	out := predict.State{X: s.x, P: mat.Mat{Rows: 6, Cols: 6}}
	for i, row := range s.p {
		copy(out.P.A[6*i:], row[:])
	}
	return out
}

// given are the same states as the program has them.
func given(l []state) []predict.State {
	var out []predict.State
	for _, s := range l {
		out = append(out, s.given())
	}
	return out
}

// onDiagonal is a table of noughts but for these.
func onDiagonal(numbers ...int64) table {
	var out table
	for i, n := range numbers {
		out[i][i] = n
	}
	return out
}

// allOf is a vector all of whose parts are n.
func allOf(n int64) vector { return vector{n, n, n, n, n, n} }

// filled is a table all of whose numbers are n.
func filled(n int64) table {
	var out table
	for i := range out {
		out[i] = allOf(n)
	}
	return out
}

// place is a number at a row and a column.
type place struct {
	i, j int
	n    int64
}

// with is a table with other numbers at some places.
func with(l table, places ...place) table {
	for _, at := range places {
		l[at.i][at.j] = at.n
	}
	return l
}

// both is a table with another number at some places, and at the turned ones.
func both(l table, places ...place) table {
	for _, at := range places {
		l[at.i][at.j], l[at.j][at.i] = at.n, at.n
	}
	return l
}

// alone are so many chances, of which one is 2^30.
func alone(place, count int) []int64 {
	out := make([]int64, count)
	out[place] = one
	return out
}

// itself are the rows by which each becomes itself.
func itself(count int) [][]int64 {
	out := make([][]int64, count)
	for i := range out {
		out[i] = alone(i, count)
	}
	return out
}

// sameRows are so many rows that are all the same.
func sameRows(row []int64, count int) [][]int64 {
	out := make([][]int64, count)
	for i := range out {
		out[i] = slices.Clone(row)
	}
	return out
}

// call is how a test tells of a call.
func call(name string, arguments ...any) string { return fmt.Sprintf("%s%v", name, arguments) }

// wantArg asks for the error of a wrong argument.
func wantArg(t testing.TB, what string, err error) {
	t.Helper()
	var number api.Errno
	if !errors.As(err, &number) || number != 1 {
		t.Errorf("%s: error %v; want 1", what, err)
	}
}

// wantNoShares asks for that error, and for nothing beside it.
func wantNoShares(t testing.TB, chances []int64, rows [][]int64, to int) {
	t.Helper()
	got, err := mix.Shares(chances, rows, to)
	wantArg(t, call("Shares", chances, rows, to), err)
	if len(got) != 0 {
		t.Errorf("Shares(%v, %v, %d): %v beside an error", chances, rows, to, got)
	}
}

// wantNoJoin asks for that error, and for nothing beside it.
func wantNoJoin(t testing.TB, l []predict.State, chances []int64) {
	t.Helper()
	got, over, err := mix.Join(l, chances)
	wantArg(t, call("Join", l, chances), err)
	if got != (predict.State{}) || over {
		t.Errorf("Join(%v, %v): %v, %v beside an error", l, chances, got, over)
	}
}

// wantNoAll asks for that error, and for nothing beside it.
func wantNoAll(t testing.TB, l []predict.State, chances []int64, rows [][]int64) {
	t.Helper()
	got, then, over, err := mix.All(l, chances, rows)
	wantArg(t, call("All", l, chances, rows), err)
	if len(got) != 0 || len(then) != 0 || over {
		t.Errorf("All(%v, %v, %v): %v, %v, %v beside an error", l, chances, rows, got, then, over)
	}
}

// wantShares asks for just these shares.
func wantShares(t testing.TB, chances []int64, rows [][]int64, to int, want ...int64) {
	t.Helper()
	got, err := mix.Shares(chances, rows, to)
	if !slices.Equal(got, want) || err != nil {
		t.Errorf("Shares(%v, %v, %d): %v, %v; want %v", chances, rows, to, got, err, want)
	}
}

// wantJoin asks for just that state, and whether something was too great.
func wantJoin(t testing.TB, l []state, chances []int64, want state, great bool) {
	t.Helper()
	got, over, err := mix.Join(given(l), chances)
	if got != want.given() || over != great || err != nil {
		t.Errorf("Join(%v, %v): %v, %v, %v; want %v, %v", l, chances, got, over, err, want, great)
	}
}

// wantAll asks for just these states and chances, and whether something was too great.
func wantAll(t testing.TB, l []state, chances []int64, rows [][]int64, want []state, then []int64, great bool) {
	t.Helper()
	got, gotThen, over, err := mix.All(given(l), chances, rows)
	if !slices.Equal(got, given(want)) || !slices.Equal(gotThen, then) || over != great || err != nil {
		t.Errorf("All(%v, %v, %v): %v, %v, %v, %v; want %v, %v, %v", l, chances, rows, got, gotThen, over, err, want, then, great)
	}
}

// wantChances asks for so many chances, none below 0.
func wantChances(t testing.TB, what string, got []int64, count int) {
	t.Helper()
	sum := int64(0)
	for _, n := range got {
		sum += n
	}
	if len(got) != count || sum != one || slices.Min(got) < 0 {
		t.Errorf("%s: %v sum to %d", what, got, sum)
	}
}

// checkShares asks for what MX1 says, at each place.
func checkShares(t testing.TB, chances []int64, rows [][]int64) {
	t.Helper()
	for to := range rows {
		want := reckonedShares(chances, rows, to)
		wantChances(t, "the reckoner", want, len(chances))
		wantShares(t, chances, rows, to, want...)
	}
}

// checkJoin asks for what MX2 says; it answers the way there.
func checkJoin(t testing.TB, l []state, chances []int64) way {
	t.Helper()
	var w way
	want := w.join(l, chances)
	wantJoin(t, l, chances, want, w.great != which{})
	return w
}

// checkAll asks for what MX3 says; it answers the way there.
func checkAll(t testing.TB, l []state, chances []int64, rows [][]int64) way {
	t.Helper()
	var w way
	want, then := w.all(l, chances, rows)
	wantAll(t, l, chances, rows, want, then, w.great != which{})
	return w
}

// edges are numbers of up to MaxTop's size: the document's, powers of two, and their neighbours, of both signs.
func edges() []int64 {
	out := []int64{0, top, -top, top - 1, 1 - top}
	for _, n := range []int64{1, 2, 3, unit / 2, unit, unit + unit/2, one, 1 << 40, 1 << 41, 1 << 42, 1 << 61} {
		out = append(out, n-1, n, n+1, 1-n, -n, -n-1)
	}
	return out
}

// beyond are numbers that are beyond MaxTop's size.
var beyond = []int64{top + 1, -top - 1, top + 2, -top - 2, most, most - 1, least, least + 1}

// random is a number of at most so many bits beside its sign, and of MaxTop's size; often most of its lower bits are noughts or ones, where halves and carries are found.
func random(r *rand.Rand, bits int) int64 {
	n := int64(r.Uint64()) >> (63 - bits + r.Intn(bits))
	low := int64(1)<<r.Intn(bits) - 1
	switch r.Intn(4) {
	case 0:
		n &^= low
	case 1:
		n |= low
	case 2:
		n = n&^low | (low+1)/2
	}
	return max(-top, min(top, n))
}

// randomState is one that may be, of numbers of at most so many bits; sometimes all are edges.
func randomState(r *rand.Rand, bits int) (s state) {
	number := func() int64 { return random(r, bits) }
	if r.Intn(8) == 0 {
		all := edges()
		number = func() int64 { return all[r.Intn(len(all))] }
	}
	for i := range 6 {
		s.x[i] = number()
		for j := range i {
			s.p = both(s.p, place{i, j, number()})
		}
		n := number()
		s.p = with(s.p, place{i, i, max(n, -n)})
	}
	return s
}

// randomStates are so many, of which some are the same at times.
func randomStates(r *rand.Rand, count int) []state {
	bits, bitsP := 1+r.Intn(62), 1+r.Intn(62)
	out := make([]state, count)
	for i := range out {
		out[i] = state{randomState(r, bits).x, randomState(r, bitsP).p}
		if i > 0 && r.Intn(5) == 0 {
			out[i] = out[r.Intn(i)]
		}
	}
	return out
}

// randomChances are so many; often some are 0, or the same.
func randomChances(r *rand.Rand, count int) []int64 {
	out := make([]int64, count)
	left := one
	for i := range count - 1 {
		n := r.Int63n(left+1) >> r.Intn(31)
		switch r.Intn(5) {
		case 0:
			n = 0
		case 1:
			n = left / 2
		}
		out[i] = n
		left -= n
	}
	out[count-1] = left
	r.Shuffle(count, func(i, j int) { out[i], out[j] = out[j], out[i] })
	return out
}

// randomRows are as many rows of chances.
func randomRows(r *rand.Rand, count int) [][]int64 {
	out := make([][]int64, count)
	for i := range out {
		out[i] = randomChances(r, count)
	}
	return out
}
