package gate_test

import (
	"cmp"
	"errors"
	"math"
	"math/big"
	"math/rand"
	"slices"
	"testing"

	"radome/api"
	"radome/gate"
	"radome/mat"
	"radome/polar"
	"radome/predict"
)

// The reckoner that the tests hold all answers against goes the steps of layers 9 and 13 by fractions of math/big, each in metres, rounded and bounded by its definition. Of the program it knows nothing but how a Mat is laid down.

const (
	top    = int64(1)<<62 - 1 // MaxTop, written out: the document says both
	most   = math.MaxInt64
	least  = math.MinInt64
	unit   = int64(1) << 20
	widest = int64(1) << 30 // the greatest most
)

// way goes step by step; over tells whether any of them was too great.
type way struct{ over bool }

// whole is the whole number next to x, of two such the even one.
func whole(x *big.Rat) *big.Int {
	up := new(big.Rat).Add(x, big.NewRat(1, 2))
	n := new(big.Int).Div(up.Num(), up.Denom())
	if up.IsInt() && n.Bit(0) == 1 {
		n.Sub(n, big.NewInt(1))
	}
	return n
}

// to is x rounded to so many bits behind the point, and bounded.
func (w *way) to(bits uint, x *big.Rat) *big.Rat {
	scale := new(big.Int).Lsh(big.NewInt(1), bits)
	n := whole(new(big.Rat).Mul(x, new(big.Rat).SetInt(scale)))
	if n.CmpAbs(big.NewInt(top)) > 0 {
		w.over = true
		n.Mul(big.NewInt(top), big.NewInt(int64(n.Sign())))
	}
	return new(big.Rat).SetFrac(n, scale)
}

// metres is n with its bits behind the point.
func metres(n int64) *big.Rat { return big.NewRat(n, unit) }

func plus(a, b *big.Rat) *big.Rat  { return new(big.Rat).Add(a, b) }
func less(a, b *big.Rat) *big.Rat  { return new(big.Rat).Sub(a, b) }
func times(a, b *big.Rat) *big.Rat { return new(big.Rat).Mul(a, b) }
func by(a, b *big.Rat) *big.Rat    { return new(big.Rat).Quo(a, b) }

// answer is what GA1 says but for how far is near enough; not ok is ErrNone.
type answer struct {
	far      int64
	over, ok bool
}

// isNear tells whether that is near enough.
func (a answer) isNear(within int64) bool { return a.ok && !a.over && a.far <= within }

// reckoned is what is to be told of a state that may be and a place that may be.
func reckoned(s predict.State, p polar.Seen) answer {
	var w way // of the gap, and of how far it is
	x, y := w.to(20, less(metres(p.X), metres(s.X[0]))), w.to(20, less(metres(p.Y), metres(s.X[3])))
	xx := w.to(20, plus(metres(s.P.A[0]), metres(p.XX)))
	xy := w.to(20, plus(metres(s.P.A[3]), metres(p.XY)))
	yy := w.to(20, plus(metres(s.P.A[21]), metres(p.YY)))
	if xx.Sign() <= 0 {
		return answer{}
	}
	var f way // of the factors alone
	lower := f.to(30, by(xy, xx))
	rest := f.to(20, less(yy, f.to(20, times(lower, f.to(20, times(lower, xx))))))
	if f.over || rest.Sign() <= 0 {
		return answer{}
	}
	y = w.to(20, less(y, w.to(20, times(lower, x))))
	along := w.to(20, by(w.to(20, times(x, x)), xx))
	far := w.to(20, plus(along, w.to(20, by(w.to(20, times(y, y)), rest))))
	return answer{whole(times(far, new(big.Rat).SetInt64(unit))).Int64(), w.over, true}
}

// reckonedAll is what is to be told of each state with each place.
func reckonedAll(l []predict.State, p []polar.Seen) [][]answer {
	var out [][]answer
	for _, s := range l {
		var row []answer
		for _, seen := range p {
			row = append(row, reckoned(s, seen))
		}
		out = append(out, row)
	}
	return out
}

// nearIn are, of a row of those, the places that are near enough.
func nearIn(row []answer, within int64) []int {
	var out []int
	for k, a := range row {
		if a.isNear(within) {
			out = append(out, k)
		}
	}
	return out
}

// nearestIn is, of a row of those, the first of them in the order of how far they are; those just as far stay in theirs.
func nearestIn(row []answer, within int64) int {
	l := nearIn(row, within)
	slices.SortStableFunc(l, func(a, b int) int { return cmp.Compare(row[a].far, row[b].far) })
	return append(l, -1)[0]
}

// table is six rows of six numbers.
type table = [6][6]int64

// vector is the six parts of a state.
type vector = [6]int64

// stateOf is a state laid down without a call of the program.
func stateOf(x vector, p table) predict.State {
	out := predict.State{X: x, P: mat.Mat{Rows: 6, Cols: 6}}
	for i, row := range p {
		copy(out.P.A[6*i:], row[:])
	}
	return out
}

// onDiagonal is a table of noughts but for these.
func onDiagonal(numbers ...int64) table {
	var out table
	for i, n := range numbers {
		out[i][i] = n
	}
	return out
}

// place is a number at a row and a column.
type place struct {
	i, j int
	n    int64
}

// both is a table with another number at some places, and at the turned ones.
func both(l table, places ...place) table {
	for _, at := range places {
		l[at.i][at.j], l[at.j][at.i] = at.n, at.n
	}
	return l
}

// known is a state at x and y, as unsure of both as told; how fast it is, and how unsure of that, is to make no difference.
func known(x, y, xx, xy, yy int64) predict.State {
	return stateOf(vector{x, -130 * unit, unit, y, 88 * unit, -unit}, both(onDiagonal(xx, 900*unit, 40*unit, yy, 800*unit, 30*unit), place{0, 3, xy}, place{0, 1, 600 * unit}, place{2, 5, 7 * unit}))
}

// sure is a state at x and y that is quite sure of both.
func sure(x, y int64) predict.State { return known(x, y, 0, 0, 0) }

// spot is a place exact to a metre by x and by y: so far away from one who is sure as the squares of both are together.
func spot(x, y int64) polar.Seen { return polar.Seen{X: x, Y: y, XX: unit, YY: unit} }

// exact is a place that is as exact as may be.
func exact(x, y int64) polar.Seen { return polar.Seen{X: x, Y: y} }

// states are some that differ; the last one is sure.
func states() []predict.State {
	return []predict.State{
		known(10400*unit+777, -7300*unit-5, 2500*unit+3, -300*unit+11, 2400*unit+9),
		known(10150*unit, -7190*unit+12345, 900*unit, 850*unit-1, 900*unit+7),
		known(-3*unit, 8000*unit+1, 40000*unit, 39000*unit, 40100*unit),
		sure(10390*unit, -7310*unit),
	}
}

// spots are some places: the first and the fifth are the same, the second one and the last have nothing that can be told to one who is sure.
func spots() []polar.Seen {
	return []polar.Seen{
		{X: 10350 * unit, Y: -7250*unit + 99, XX: 2500 * unit, YY: 1600 * unit, XY: -300 * unit},
		exact(10390*unit, -7310*unit),
		{X: 10391 * unit, Y: -7309 * unit, XX: unit, YY: unit + 3, XY: unit / 2},
		{X: -703 * unit, Y: 7300 * unit, XX: 2500 * unit, YY: 2500 * unit, XY: 2400 * unit},
		{X: 10350 * unit, Y: -7250*unit + 99, XX: 2500 * unit, YY: 1600 * unit, XY: -300 * unit},
		{X: 10111 * unit, Y: -7201 * unit, XX: 400*unit + 1, YY: 100 * unit, XY: -200 * unit},
	}
}

// fars is how far each of those is from each, as another program reckoned it; -1 where nothing can be told.
func fars() [][]int64 {
	return [][]int64{
		{1041118, 97590, 78994, 122691819996, 1041118, 31249871},
		{16046485, 1363356556, 1350041821, 2245928865718, 16046485, 1338760},
		{101487872921, 329964578903, 329807503614, 12240989, 101487872921, 224297269939},
		{2713969, -1, 1398100, 3465001794041, 2713969, -1},
	}
}

// isErr tells whether it is an error of that number.
func isErr(err error, number api.Errno) bool {
	var got api.Errno
	return errors.As(err, &got) && got == number
}

// wantGate asks for just these answers.
func wantGate(t testing.TB, s predict.State, p polar.Seen, within, far int64, near, over bool) {
	t.Helper()
	if gotFar, gotNear, gotOver, err := gate.Gate(s, p, within); gotFar != far || gotNear != near || gotOver != over || err != nil {
		t.Errorf("Gate(%v, %v, %d): %d, %v, %v, %v; want %d, %v, %v", s, p, within, gotFar, gotNear, gotOver, err, far, near, over)
	}
}

// wantNoGate asks for that error of Gate, and for nothing beside it.
func wantNoGate(t testing.TB, s predict.State, p polar.Seen, within int64, number api.Errno) {
	t.Helper()
	if far, near, over, err := gate.Gate(s, p, within); far != 0 || near || over || !isErr(err, number) {
		t.Errorf("Gate(%v, %v, %d): %d, %v, %v, %v; want just error %d", s, p, within, far, near, over, err, number)
	}
}

// areSame tells whether both have the same lists; nil is empty.
func areSame(a, b [][]int) bool {
	return slices.EqualFunc(a, b, func(a, b []int) bool { return slices.Equal(a, b) })
}

// wantPairs asks for just these places of each state.
func wantPairs(t testing.TB, l []predict.State, p []polar.Seen, within int64, over bool, want ...[]int) {
	t.Helper()
	if got, gotOver, err := gate.Pairs(l, p, within); !areSame(got, want) || gotOver != over || err != nil {
		t.Errorf("Pairs(%v, %v, %d): %v, %v, %v; want %v, %v", l, p, within, got, gotOver, err, want, over)
	}
}

// wantNearest asks for just this place of each state.
func wantNearest(t testing.TB, l []predict.State, p []polar.Seen, within int64, want ...int) {
	t.Helper()
	if got, err := gate.Nearest(l, p, within); !slices.Equal(got, want) || err != nil {
		t.Errorf("Nearest(%v, %v, %d): %v, %v; want %v", l, p, within, got, err, want)
	}
}

// wantNone asks for that error of Pairs and of Nearest, and for nothing beside it.
func wantNone(t testing.TB, l []predict.State, p []polar.Seen, within int64, number api.Errno) {
	t.Helper()
	if near, over, err := gate.Pairs(l, p, within); near != nil || over || !isErr(err, number) {
		t.Errorf("Pairs(%v, %v, %d): %v, %v, %v; want just error %d", l, p, within, near, over, err, number)
	}
	if first, err := gate.Nearest(l, p, within); first != nil || !isErr(err, number) {
		t.Errorf("Nearest(%v, %v, %d): %v, %v; want just error %d", l, p, within, first, err, number)
	}
}

// checkGate asks Gate for what GA1 says; it answers what that is.
func checkGate(t testing.TB, s predict.State, p polar.Seen, within int64) answer {
	t.Helper()
	want := reckoned(s, p)
	if want.ok {
		wantGate(t, s, p, within, want.far, want.isNear(within), want.over)
	} else {
		wantNoGate(t, s, p, within, 8)
	}
	return want
}

// checkAll asks Pairs and Nearest for what GA2 and GA3 say; it answers the pairs, and whether a number was too great.
func checkAll(t testing.TB, l []predict.State, p []polar.Seen, within int64) ([][]int, bool) {
	t.Helper()
	var pairs [][]int
	var first []int
	over := false
	for _, row := range reckonedAll(l, p) {
		pairs, first = append(pairs, nearIn(row, within)), append(first, nearestIn(row, within))
		over = over || slices.ContainsFunc(row, func(a answer) bool { return a.over })
	}
	wantPairs(t, l, p, within, over, pairs...)
	wantNearest(t, l, p, within, first...)
	return pairs, over
}

// mosts are some that may be, with both ends.
func mosts() []int64 {
	return []int64{1, 2, 3, 1000, unit - 1, unit, unit + 1, 16 * unit, 1 << 29, widest - 1, widest}
}

// wrongMosts are some that may not be.
func wrongMosts() []int64 {
	return []int64{0, -1, -2, -unit, widest + 1, widest + 2, 2 * widest, -widest, 1 << 32, 1<<32 + 1, 1<<32 + unit, -1 << 32, top, -top, top + 1, most, least, least + 1}
}

// beyond are numbers that are beyond MaxTop's size.
func beyond() []int64 {
	return []int64{top + 1, -top - 1, top + 2, -top - 2, most, most - 1, least, least + 1}
}

// random is a number of at most so many bits beside its sign, and of MaxTop's size; often most of its lower bits are noughts or ones, where halves and carries are found.
func random(r *rand.Rand, bits int) int64 {
	n := int64(r.Uint64()) >> (63 - bits + r.Intn(bits))
	low := int64(1)<<r.Intn(bits) - 1
	switch r.Intn(4) {
	case 0:
		n &^= low
	case 1:
		n |= low
	case 2:
		n = n&^low | (low+1)/2
	}
	return max(-top, min(top, n))
}

// above is such a number that is not below 0.
func above(r *rand.Rand, bits int) int64 {
	n := random(r, bits)
	return max(n, -n)
}

// oneOf is any of a list.
func oneOf[T any](r *rand.Rand, l []T) T { return l[r.Intn(len(l))] }

// randomMost is one that may be.
func randomMost(r *rand.Rand) int64 {
	if r.Intn(3) == 0 {
		return oneOf(r, mosts())
	}
	return 1 + r.Int63n(widest)>>r.Intn(30)
}

// randomState is one that may be, at numbers of at most so many bits, and as unsure as some of at most so many others.
func randomState(r *rand.Rand, bits, bitsP int) predict.State {
	xx, yy := above(r, bitsP), above(r, bitsP)
	out := known(random(r, bits), random(r, bits), xx, random(r, bitsP)>>r.Intn(10), yy)
	switch r.Intn(8) {
	case 0:
		out = sure(out.X[0], out.X[3])
	case 1:
		out = known(out.X[0], out.X[3], min(xx, yy), min(xx, yy), max(xx, yy))
	}
	return out
}

// randomSeen is a place that may be, about a state: often within what may be near enough, at times anywhere.
func randomSeen(r *rand.Rand, about predict.State, bitsP int) polar.Seen {
	xx, yy := above(r, bitsP), above(r, bitsP)
	out := polar.Seen{X: about.X[0], Y: about.X[3], XX: xx, YY: yy, XY: random(r, bitsP) >> r.Intn(10)}
	if r.Intn(5) == 0 {
		out = exact(out.X, out.Y)
	}
	bits := min(61, 1+(bitsP+r.Intn(34))/2)
	if r.Intn(10) == 0 {
		bits = 62
	}
	out.X = max(-top, min(top, out.X+random(r, bits)/2))
	out.Y = max(-top, min(top, out.Y+random(r, bits)/2))
	return out
}

// randomAll are so many states and places about them, some of which are the same.
func randomAll(r *rand.Rand, many, count int) ([]predict.State, []polar.Seen) {
	var l []predict.State
	var p []polar.Seen
	bits, bitsP := 1+r.Intn(62), 1+r.Intn(62)
	for i := range many {
		l = append(l, randomState(r, bits, bitsP))
		if i > 0 && r.Intn(5) == 0 {
			l[i] = oneOf(r, l)
		}
	}
	for i := range count {
		about := known(0, 0, unit, 0, unit)
		if many > 0 {
			about = oneOf(r, l)
		}
		p = append(p, randomSeen(r, about, bitsP))
		if r.Intn(5) == 0 {
			p[i] = oneOf(r, p)
		}
	}
	return l, p
}
