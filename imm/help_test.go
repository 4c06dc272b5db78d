package imm_test

import (
	"errors"
	"fmt"
	"math"
	"math/rand"
	"slices"
	"testing"

	"radome/api"
	"radome/chance"
	"radome/imm"
	"radome/like"
	"radome/mat"
	"radome/mix"
	"radome/model"
	"radome/polar"
	"radome/predict"
	"radome/update"
)

// The reckoner that the tests hold answers against goes the chapter's steps by the calls that it names, which their own tests hold against math/big; what is mixed it takes place by place from layer 15's Shares and Join. The tests of constants, which are of another reckoner that goes the steps of all chapters by exact fractions, ask for the same without these calls.

const (
	top     = int64(1)<<62 - 1 // MaxTop, written out: the document says both
	most    = math.MaxInt64
	least   = math.MinInt64
	unit    = int64(1) << 20 // one metre, and a second
	one     = int64(1) << 30 // what chances sum to
	half    = one / 2
	quarter = one / 4
	highest = int64(1) << 26 // the greatest floor
	longest = int64(1) << 26 // the greatest time

	greatestNoise = int64(1) << 30
	leastRate     = int64(1) << 20
	greatestRate  = int64(1) << 28
)

// The calls below of which a number may be too great.
const (
	byJoin    = iota // layer 15's
	byModel          // layer 11's Step and Noise
	byPredict        // layer 12's Next
	byGap            // layer 13's Of
	byLike           // layer 16's Of
	byUpdate         // layer 13's Next
	byWeights        // layer 16's
	allCalls
)

// which are some of the calls.
type which [allCalls]bool

// those are the calls that are named.
func those(calls ...int) (out which) {
	for _, c := range calls {
		out[c] = true
	}
	return out
}

// reckoner goes the steps, and remembers by which calls a number was too great.
type reckoner struct {
	t    testing.TB
	told which
}

// tell remembers what a call told; it told no error.
func (k *reckoner) tell(c int, over bool, err error) {
	k.t.Helper()
	if err != nil {
		k.t.Fatalf("the reckoner: %v", err)
	}
	k.told[c] = k.told[c] || over
}

// step is a state after a time.
func (k *reckoner) step(of model.Model, s predict.State, dt int64) predict.State {
	k.t.Helper()
	step, over, err := model.Step(of, dt)
	k.tell(byModel, over, err)
	noise, over, err := model.Noise(of, dt)
	k.tell(byModel, over, err)
	out, over, err := predict.Next(s, step, noise)
	k.tell(byPredict, over, err)
	return out
}

// ahead is what IM2 says.
func (k *reckoner) ahead(c imm.Conf, m imm.Imm, dt int64) imm.Imm {
	k.t.Helper()
	then, err := chance.Mix(m.Chances, c.Rows)
	k.tell(byJoin, false, err)
	out := imm.Imm{Chances: then}
	for to, of := range c.Models {
		shares, err := mix.Shares(m.Chances, c.Rows, to)
		k.tell(byJoin, false, err)
		mixed, over, err := mix.Join(m.States, shares)
		k.tell(byJoin, over, err)
		out.States = append(out.States, k.step(of, mixed, dt))
	}
	return out
}

// seen is what IM3 says, where layer 13's Of takes all states.
func (k *reckoner) seen(c imm.Conf, m imm.Imm, p polar.Seen) imm.Imm {
	k.t.Helper()
	var out imm.Imm
	var logs []int64
	for _, s := range m.States {
		gap, over, err := update.Of(s, p)
		k.tell(byGap, over, err)
		log, over, err := like.Of(gap)
		k.tell(byLike, over, err)
		then, over, err := update.Next(s, p)
		k.tell(byUpdate, over, err)
		out.States, logs = append(out.States, then), append(logs, log)
	}
	chances, over, err := like.Weights(logs, m.Chances, c.Floor)
	k.tell(byWeights, over, err)
	out.Chances = chances
	return out
}

// areTaken tells whether layer 13's Of takes all states.
func areTaken(l []predict.State, p polar.Seen) bool {
	return !slices.ContainsFunc(l, func(s predict.State) bool {
		_, _, err := update.Of(s, p)
		return err != nil
	})
}

// table is six rows of six numbers.
type table = [6][6]int64

// vector is the six parts of a state.
type vector = [6]int64

// stateOf is a state laid down without a call of the program.
func stateOf(x vector, p table) predict.State {
	out := predict.State{X: x, P: mat.Mat{Rows: 6, Cols: 6}}
	for i, row := range p {
		copy(out.P.A[6*i:], row[:])
	}
	return out
}

// onDiagonal is a table of noughts but for these.
func onDiagonal(numbers ...int64) table {
	var out table
	for i, n := range numbers {
		out[i][i] = n
	}
	return out
}

// ones is how unsure a state is by one of each part.
func ones() table { return onDiagonal(unit, unit, unit, unit, unit, unit) }

// allOf is a vector all of whose parts are n.
func allOf(n int64) vector { return vector{n, n, n, n, n, n} }

// place is a number at a row and a column.
type place struct {
	i, j int
	n    int64
}

// with is a table with other numbers at some places.
func with(l table, places ...place) table {
	for _, at := range places {
		l[at.i][at.j] = at.n
	}
	return l
}

// both is a table with another number at some places, and at the turned ones.
func both(l table, places ...place) table {
	for _, at := range places {
		l[at.i][at.j], l[at.j][at.i] = at.n, at.n
	}
	return l
}

// alone are so many chances, of which one is for sure.
func alone(place, many int) []int64 {
	out := make([]int64, many)
	out[place] = one
	return out
}

// itself are the rows by which each becomes itself.
func itself(many int) [][]int64 {
	out := make([][]int64, many)
	for i := range out {
		out[i] = alone(i, many)
	}
	return out
}

// sameRows are so many rows that are all the same.
func sameRows(row []int64, many int) [][]int64 {
	out := make([][]int64, many)
	for i := range out {
		out[i] = slices.Clone(row)
	}
	return out
}

// someModels are one of each kind.
func someModels() []model.Model {
	return []model.Model{
		{Kind: model.Still, Noise: 1 << 18}, {Kind: model.Pushed, Noise: 1 << 20},
		{Kind: model.Left, Rate: 1 << 26, Noise: 1 << 18}, {Kind: model.Right, Rate: 1 << 26, Noise: 1 << 18},
	}
}

// someRows are those by which four mostly stay as they are.
func someRows() [][]int64 {
	return [][]int64{
		{939524096, 67108864, 33554432, 33554432}, {134217728, 805306368, 100663296, 33554432},
		{200000000, 50000000, 800000000, 23741824}, {150000000, 70000000, 3741824, 850000000},
	}
}

// someConf has so many models, and rows that differ by place and by turn.
func someConf(many int) imm.Conf {
	out := imm.Conf{Models: someModels()[:many], Floor: 1 << 20}
	for i, row := range someRows()[:many] {
		row, left := row[:many:many], row[many:]
		for _, n := range left {
			row[i] += n
		}
		out.Rows = append(out.Rows, row)
	}
	return out
}

// modelsAt are models of a kind, at its bounds and between.
func modelsAt(kind int) []model.Model {
	rates := []int64{0}
	if kind >= model.Left {
		rates = []int64{leastRate, 1 << 26, greatestRate}
	}
	var out []model.Model
	for _, rate := range rates {
		for _, noise := range []int64{1, unit, greatestNoise} {
			out = append(out, model.Model{Kind: kind, Rate: rate, Noise: noise})
		}
	}
	return out
}

// someState is one that may be, of ordinary numbers.
func someState() predict.State {
	return stateOf(vector{10400 * unit, -130 * unit, -unit, -7300 * unit, 88 * unit, unit}, both(onDiagonal(2500*unit, 900*unit, 40*unit, 2400*unit, 800*unit, 30*unit), place{0, 1, 600 * unit}, place{0, 3, -300 * unit}, place{2, 5, 7 * unit}))
}

// someSeen is a place near it.
func someSeen() polar.Seen {
	return polar.Seen{X: 10350 * unit, Y: -7250 * unit, XX: 2500 * unit, YY: 1600 * unit, XY: -300 * unit}
}

// someImm are so many states next to each other, with chances that differ.
func someImm(many int) imm.Imm {
	out := imm.Imm{Chances: [][]int64{{one}, {700000001, 373741823}, {500000000, 300000001, 273741823}, {400000000, 300000000, 200000001, 173741823}}[many-1]}
	for i := range int64(many) {
		s := someState()
		s.X[0] += 20 * i * unit
		s.X[4] -= 9*i*unit + i
		s.P.A[0] += i * i * unit
		out.States = append(out.States, s)
	}
	return out
}

// call is how a test tells of a call.
func call(name string, arguments ...any) string { return fmt.Sprintf("%s%v", name, arguments) }

// wantErr asks for an error of that number.
func wantErr(t testing.TB, what string, err error, number api.Errno) {
	t.Helper()
	var got api.Errno
	if !errors.As(err, &got) || got != number {
		t.Errorf("%s: error %v; want %d", what, err, number)
	}
}

// isSame tells whether both have the same states and chances.
func isSame(a, b imm.Imm) bool {
	return slices.Equal(a.States, b.States) && slices.Equal(a.Chances, b.Chances)
}

// wantImm asks for just that Imm.
func wantImm(t testing.TB, what string, got imm.Imm, over bool, err error, want imm.Imm, great bool) {
	t.Helper()
	if !isSame(got, want) || over != great || err != nil {
		t.Errorf("%s: %v, %v, %v; want %v, %v", what, got, over, err, want, great)
	}
}

// wantNothing asks for that error, and for nothing beside it.
func wantNothing(t testing.TB, what string, got imm.Imm, over bool, err error, number api.Errno) {
	t.Helper()
	wantErr(t, what, err, number)
	if got.States != nil || got.Chances != nil || over {
		t.Errorf("%s: %v, %v beside an error", what, got, over)
	}
}

func wantNoStart(t testing.TB, c imm.Conf, s predict.State) {
	t.Helper()
	got, err := imm.Start(c, s)
	wantNothing(t, call("Start", c, s), got, false, err, 1)
}

func wantNoAhead(t testing.TB, c imm.Conf, m imm.Imm, dt int64) {
	t.Helper()
	got, over, err := imm.Ahead(c, m, dt)
	wantNothing(t, call("Ahead", c, m, dt), got, over, err, 1)
}

func wantNoSeen(t testing.TB, c imm.Conf, m imm.Imm, p polar.Seen, number api.Errno) {
	t.Helper()
	got, over, err := imm.Seen(c, m, p)
	wantNothing(t, call("Seen", c, m, p), got, over, err, number)
}

func wantNoOne(t testing.TB, m imm.Imm) {
	t.Helper()
	got, over, err := imm.One(m)
	wantErr(t, call("One", m), err, 1)
	if got != (predict.State{}) || over {
		t.Errorf("One(%v): %v, %v beside an error", m, got, over)
	}
}

// wantOne asks for just that state.
func wantOne(t testing.TB, m imm.Imm, want predict.State, great bool) {
	t.Helper()
	if got, over, err := imm.One(m); got != want || over != great || err != nil {
		t.Errorf("One(%v): %v, %v, %v; want %v, %v", m, got, over, err, want, great)
	}
}

// wantChances asks for so many chances, none below a floor: IM5.
func wantChances(t testing.TB, what string, l []int64, many int, floor int64) {
	t.Helper()
	sum := int64(0)
	for _, n := range l {
		sum += n
	}
	if len(l) != many || sum != one || slices.Min(l) < floor {
		t.Errorf("%s: %v sum to %d; floor %d", what, l, sum, floor)
	}
}

// checkAhead asks for what IM2 and IM5 say; by which calls a number was too great.
func checkAhead(t testing.TB, c imm.Conf, m imm.Imm, dt int64) which {
	t.Helper()
	k := reckoner{t: t}
	want := k.ahead(c, m, dt)
	got, over, err := imm.Ahead(c, m, dt)
	wantImm(t, call("Ahead", c, m, dt), got, over, err, want, k.told != which{})
	wantChances(t, call("Ahead", c, m, dt), got.Chances, len(c.Models), 0)
	return k.told
}

// checkSeen asks for what IM3 and IM5 say, where layer 13's Of takes all states; by which calls a number was too great.
func checkSeen(t testing.TB, c imm.Conf, m imm.Imm, p polar.Seen) which {
	t.Helper()
	k := reckoner{t: t}
	want := k.seen(c, m, p)
	got, over, err := imm.Seen(c, m, p)
	wantImm(t, call("Seen", c, m, p), got, over, err, want, k.told != which{})
	wantChances(t, call("Seen", c, m, p), got.Chances, len(c.Models), c.Floor)
	return k.told
}

// edges are numbers of up to MaxTop's size: the document's, powers of two, and their neighbours, of both signs.
func edges() []int64 {
	out := []int64{0, top, -top, top - 1, 1 - top}
	for _, n := range []int64{1, 2, unit / 2, unit, one, 1 << 41, 1 << 42, 1 << 61} {
		out = append(out, n-1, n, n+1, 1-n, -n, -n-1)
	}
	return out
}

// beyond are numbers that are beyond MaxTop's size.
var beyond = []int64{top + 1, -top - 1, top + 2, -top - 2, most, most - 1, least, least + 1}

// floors are some that may be, with both ends.
var floors = []int64{0, 1, 2, 1000, 1<<20 + 1, highest - 1, highest}

// wrongFloors are some that may not be.
var wrongFloors = []int64{-1, -2, highest + 1, 2 * highest, -highest, quarter, one, -one, 1 << 32, 1<<32 + 5, -1 << 32, top, -top, most, least, least + 1}

// random is a number of at most so many bits beside its sign, and of MaxTop's size; often most of its lower bits are noughts or ones, where halves and carries are found.
func random(r *rand.Rand, bits int) int64 {
	n := int64(r.Uint64()) >> (63 - bits + r.Intn(bits))
	low := int64(1)<<r.Intn(bits) - 1
	switch r.Intn(4) {
	case 0:
		n &^= low
	case 1:
		n |= low
	case 2:
		n = n&^low | (low+1)/2
	}
	return max(-top, min(top, n))
}

// above is such a number that is not below 0.
func above(r *rand.Rand, bits int) int64 {
	n := random(r, bits)
	return max(n, -n)
}

// stateWith is a state that may be, with X and P of numbers that are told.
func stateWith(inX, inP func() int64) predict.State {
	var x vector
	var p table
	for i := range 6 {
		x[i] = inX()
		for j := range i {
			p = both(p, place{i, j, inP()})
		}
		n := inP()
		p = with(p, place{i, i, max(n, -n)})
	}
	return stateOf(x, p)
}

// randomState is one that may be: X of numbers of at most so many bits, P of at most so many others; sometimes all are edges.
func randomState(r *rand.Rand, bits, bitsP int) predict.State {
	if r.Intn(8) == 0 {
		all := edges()
		edge := func() int64 { return all[r.Intn(len(all))] }
		return stateWith(edge, edge)
	}
	return stateWith(func() int64 { return random(r, bits) }, func() int64 { return random(r, bitsP) >> (4 * r.Intn(3)) })
}

// nearState is one within some kilometres, so that of such together nothing is too great.
func nearState(r *rand.Rand) predict.State {
	return stateWith(func() int64 { return random(r, 33) }, func() int64 { return random(r, 40) })
}

// randomChances are so many; often some are 0, or the same.
func randomChances(r *rand.Rand, many int) []int64 {
	out := make([]int64, many)
	left := one
	for i := range many - 1 {
		n := r.Int63n(left+1) >> r.Intn(31)
		switch r.Intn(5) {
		case 0:
			n = 0
		case 1:
			n = left / 2
		}
		out[i] = n
		left -= n
	}
	out[many-1] = left
	r.Shuffle(many, func(i, j int) { out[i], out[j] = out[j], out[i] })
	return out
}

// randomModel is one that may be, of any kind and size.
func randomModel(r *rand.Rand) model.Model {
	m := model.Model{Kind: r.Intn(4), Noise: 1 + r.Int63n(greatestNoise)>>r.Intn(30)}
	if m.Kind >= model.Left {
		m.Rate = max(leastRate, 1+r.Int63n(greatestRate)>>r.Intn(9))
	}
	return m
}

// randomConf is one that may be, of so many models, some of which are the same at times.
func randomConf(r *rand.Rand, many int) imm.Conf {
	out := imm.Conf{Floor: floors[r.Intn(len(floors))]}
	for i := range many {
		out.Models, out.Rows = append(out.Models, randomModel(r)), append(out.Rows, randomChances(r, many))
		if i > 0 && r.Intn(4) == 0 {
			out.Models[i] = out.Models[r.Intn(i)]
		}
	}
	return out
}

// randomImm is one that may be, of so many states, some of which are the same at times.
func randomImm(r *rand.Rand, many int) imm.Imm {
	out := imm.Imm{Chances: randomChances(r, many)}
	bits, bitsP := 1+r.Intn(62), 1+r.Intn(62)
	for i := range many {
		out.States = append(out.States, randomState(r, bits, bitsP))
		if i > 0 && r.Intn(5) == 0 {
			out.States[i] = out.States[r.Intn(i)]
		}
	}
	return out
}

// randomTime is one that may be, of any size.
func randomTime(r *rand.Rand) int64 {
	return []int64{1, 2, unit, 4 * unit, longest - 1, longest, 1 + r.Int63n(longest), 1 + r.Int63n(longest)>>r.Intn(26)}[r.Intn(8)]
}

// randomSeen is a place that may be.
func randomSeen(r *rand.Rand, bits int) polar.Seen {
	out := polar.Seen{X: random(r, bits), Y: random(r, bits), XX: above(r, bits), YY: above(r, bits), XY: random(r, bits) >> (8 * r.Intn(5))}
	if r.Intn(4) == 0 {
		out.XX, out.YY = top-out.XX, top-out.YY
	}
	return out
}
