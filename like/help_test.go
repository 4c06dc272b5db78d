package like_test

import (
	"errors"
	"fmt"
	"math"
	"math/big"
	"math/rand"
	"slices"
	"testing"

	"radome/api"
	"radome/ldl"
	"radome/like"
	"radome/update"
)

// The reckoner that the tests hold all answers against goes the chapter's steps, and those of the chapters that it calls, by math/big: each number exactly, then rounded and bounded by their definitions. Of the program it knows nothing but how Factors are laid down.

const (
	top     = int64(1)<<62 - 1 // MaxTop, written out: the document says both
	most    = math.MaxInt64
	least   = math.MinInt64
	unit    = int64(1) << 20 // one, but of chances
	one     = int64(1) << 30 // what chances sum to
	half    = one / 2
	quarter = one / 4
	highest = int64(1) << 26 // the greatest floor
)

// way goes step by step, and remembers whether a number was too great.
type way struct{ great bool }

// near is the whole number nearest to n by another one, of two such the even one; bounded.
func (w *way) near(n, by *big.Int) int64 {
	near, rest := new(big.Int).DivMod(n, by, new(big.Int))
	side := rest.Lsh(rest, 1).Cmp(by)
	if side > 0 || side == 0 && near.Bit(0) == 1 {
		near.Add(near, big.NewInt(1))
	}
	if near.CmpAbs(big.NewInt(top)) > 0 {
		w.great = true
		return int64(near.Sign()) * top
	}
	return near.Int64()
}

func power(bits uint) *big.Int { return new(big.Int).Lsh(big.NewInt(1), bits) }

func (w *way) times(a, b int64, bits uint) int64 {
	return w.near(new(big.Int).Mul(big.NewInt(a), big.NewInt(b)), power(bits))
}

func (w *way) plus(a, b int64) int64 {
	return w.near(new(big.Int).Add(big.NewInt(a), big.NewInt(b)), power(0))
}

func (w *way) less(a, b int64) int64 {
	return w.near(new(big.Int).Sub(big.NewInt(a), big.NewInt(b)), power(0))
}

// by is a times 2 to the power of bits, by b, which is above 0.
func (w *way) by(a, b int64, bits uint) int64 {
	return w.near(new(big.Int).Lsh(big.NewInt(a), bits), big.NewInt(b))
}

// pair is what factors of two rows are made of: one number of L, two of D.
type pair struct{ l, d0, d1 int64 }

// factors are these laid down.
func (f pair) factors() ldl.Factors {
	return ldl.Factors{N: 2, L: [36]int64{one, 0, f.l, one}, D: [6]int64{f.d0, f.d1}}
}

// gap is a gap of which nothing was reckoned.
func (f pair) gap(v [2]int64) update.Gap { return update.Gap{V: v, F: f.factors()} }

// steppedFar is what LD2's Far says of two numbers.
func (w *way) steppedFar(v [2]int64, f pair) int64 {
	y0 := w.plus(v[0], 0)
	y1 := w.less(v[1], w.times(f.l, y0, 30))
	first := w.by(w.times(y0, y0, 20), f.d0, 20)
	return w.plus(first, w.by(w.times(y1, y1, 20), f.d1, 20))
}

// logOfTwo is GW1's L.
const logOfTwo = 780414346020670

// steppedLog is what GW2 says of a number from 1 to MaxTop with 20 bits behind the point.
func steppedLog(x int64) int64 {
	var w way
	m, down := x, int64(0)
	for ; m < 1<<50; down-- {
		m *= 2
	}
	for ; m >= 1<<51; down++ {
		m /= 2
	}
	u := w.by(m-1<<50, m+1<<50, 50)
	q, sum := w.times(u, u, 50), int64(0)
	for n := range int64(20) {
		sum += u / (2*n + 1)
		u = w.times(u, q, 50)
	}
	all := new(big.Int).Mul(big.NewInt(down+30), big.NewInt(logOfTwo))
	return w.near(all.Add(all, big.NewInt(2*sum)), power(30))
}

// steppedExp is what GW1 says of a number that is not above 0.
func steppedExp(x int64) int64 {
	if x < -45*unit {
		return 0
	}
	var w way
	y := -x << 30
	k, r := y/logOfTwo, y%logOfTwo
	term, sum := int64(1)<<50, int64(1)<<50
	for n := range int64(20) {
		term = w.times(term, r, 50) / (n + 1)
		if n%2 == 0 {
			sum -= term
		} else {
			sum += term
		}
	}
	return w.near(big.NewInt(sum), power(uint(20+k)))
}

// reckonedOf is what LK1 says of a gap that may be; whether Far was too great, and whether anything was.
func reckonedOf(v [2]int64, f pair) (out int64, far, great bool) {
	var w way
	sum := w.steppedFar(v, f)
	far = w.great
	sum = w.plus(sum, steppedLog(f.d0)+steppedLog(f.d1))
	out = w.times(sum, -1<<19, 20)
	return out, far, w.great
}

// parted is a whole by shares, as chapter 14 says it.
func parted(whole int64, weights []*big.Int) []int64 {
	all := new(big.Int)
	for _, n := range weights {
		all.Add(all, n)
	}
	out, places, cut := make([]int64, len(weights)), make([]int, len(weights)), make([]*big.Int, len(weights))
	left := whole
	for i, n := range weights {
		part, rest := new(big.Int).DivMod(new(big.Int).Mul(big.NewInt(whole), n), all, new(big.Int))
		out[i], places[i], cut[i] = part.Int64(), i, rest
		left -= out[i]
	}
	slices.SortStableFunc(places, func(a, b int) int { return cut[b].Cmp(cut[a]) })
	for _, place := range places[:left] {
		out[place]++
	}
	return out
}

// reckonedWeights is what LK2 says of what is not wrong.
func reckonedWeights(logs, chances []int64, floor int64) ([]int64, bool) {
	var w way
	greatest := int64(least)
	for i, n := range logs {
		if chances[i] != 0 && n > greatest {
			greatest = n
		}
	}
	weights := make([]*big.Int, len(logs))
	for i, n := range logs {
		weights[i] = new(big.Int)
		if chances[i] != 0 {
			weights[i].Mul(big.NewInt(steppedExp(w.less(n, greatest))), big.NewInt(chances[i]))
		}
	}
	out := parted(one-floor*int64(len(logs)), weights)
	for i := range out {
		out[i] += floor
	}
	return out, w.great
}

// reckonedBest is what LK3 says of from 1 to 64 numbers: it puts their places in order.
func reckonedBest(logs []int64) (int, int64) {
	places := make([]int, len(logs))
	for i := range places {
		places[i] = i
	}
	slices.SortStableFunc(places, func(a, b int) int { return big.NewInt(logs[b]).Cmp(big.NewInt(logs[a])) })
	if len(places) == 1 {
		return 0, top
	}
	var w way
	return places[0], w.less(logs[places[0]], logs[places[1]])
}

// call is how a test tells of a call.
func call(name string, arguments ...any) string { return fmt.Sprintf("%s%v", name, arguments) }

// wantErr asks for an error of that number.
func wantErr(t testing.TB, what string, err error, number api.Errno) {
	t.Helper()
	var got api.Errno
	if !errors.As(err, &got) || got != number {
		t.Errorf("%s: %v; want error %d", what, err, number)
	}
}

// wantOf asks for just that logarithm of a gap.
func wantOf(t testing.TB, g update.Gap, want int64, great bool) {
	t.Helper()
	if got, over, err := like.Of(g); got != want || over != great || err != nil {
		t.Errorf("Of(%v): %d, %v, %v; want %d, %v", g, got, over, err, want, great)
	}
}

// wantNoOf asks for ErrArg, and for nothing beside it.
func wantNoOf(t testing.TB, g update.Gap) {
	t.Helper()
	got, over, err := like.Of(g)
	wantErr(t, call("Of", g), err, 1)
	if got != 0 || over {
		t.Errorf("Of(%v): %d, %v beside an error", g, got, over)
	}
}

// checkOf asks for what LK1 says; whether Far was too great, and whether anything was.
func checkOf(t testing.TB, v [2]int64, f pair) (far, great bool) {
	t.Helper()
	want, far, great := reckonedOf(v, f)
	wantOf(t, f.gap(v), want, great)
	return far, great
}

// wantWeights asks for just those chances.
func wantWeights(t testing.TB, logs, chances []int64, floor int64, great bool, want ...int64) {
	t.Helper()
	if got, over, err := like.Weights(logs, chances, floor); !slices.Equal(got, want) || over != great || err != nil {
		t.Errorf("Weights(%v, %v, %d): %v, %v, %v; want %v, %v", logs, chances, floor, got, over, err, want, great)
	}
}

// wantNoWeights asks for ErrArg, and for nothing beside it.
func wantNoWeights(t testing.TB, logs, chances []int64, floor int64) {
	t.Helper()
	got, over, err := like.Weights(logs, chances, floor)
	wantErr(t, call("Weights", logs, chances, floor), err, 1)
	if len(got) != 0 || over {
		t.Errorf("Weights(%v, %v, %d): %v, %v beside an error", logs, chances, floor, got, over)
	}
}

// checkWeights asks for what LK2 says, and P3: that they sum to one, none below the floor; whether anything was too great.
func checkWeights(t testing.TB, logs, chances []int64, floor int64) bool {
	t.Helper()
	want, great := reckonedWeights(logs, chances, floor)
	wantWeights(t, logs, chances, floor, great, want...)
	sum := int64(0)
	for _, n := range want {
		sum += n
	}
	if sum != one || slices.Min(want) < floor {
		t.Errorf("Weights(%v, %v, %d): %v sum to %d", logs, chances, floor, want, sum)
	}
	return great
}

// wantBest asks for just that place, and that much.
func wantBest(t testing.TB, logs []int64, place int, by int64) {
	t.Helper()
	if got, more, err := like.Best(logs); got != place || more != by || err != nil {
		t.Errorf("Best(%v): %d, %d, %v; want %d, %d", logs, got, more, err, place, by)
	}
}

// wantNoBest asks for ErrArg, and for nothing beside it.
func wantNoBest(t testing.TB, logs []int64) {
	t.Helper()
	place, by, err := like.Best(logs)
	wantErr(t, call("Best", logs), err, 1)
	if place != 0 || by != 0 {
		t.Errorf("Best(%v): %d, %d beside an error", logs, place, by)
	}
}

// checkBest asks for what LK3 says.
func checkBest(t testing.TB, logs []int64) {
	t.Helper()
	place, by := reckonedBest(logs)
	wantBest(t, logs, place, by)
}

// random is a number of at most so many bits, below 63, and of any sign; often most of its lower bits are noughts or ones, where halves and carries are found.
func random(r *rand.Rand, bits int) int64 {
	n := int64(r.Uint64()) >> (63 - bits + r.Intn(bits))
	low := int64(1)<<r.Intn(bits) - 1
	switch r.Intn(4) {
	case 0:
		n &^= low
	case 1:
		n |= low
	case 2:
		n = n&^low | (low+1)/2
	}
	return max(-top, min(top, n))
}

// randomPair are factors that may be: D of numbers of at most so many bits.
func randomPair(r *rand.Rand, bits int) pair {
	d0, d1 := random(r, bits), random(r, bits)
	return pair{random(r, 1+r.Intn(62)), max(1, d0, -d0), max(1, d1, -d1)}
}

// randomChances are so many chances; some often are 0, or nearly.
func randomChances(r *rand.Rand, many int) []int64 {
	out := make([]int64, many)
	left := one
	for i := range many - 1 {
		out[i] = r.Int63n(left+1) >> r.Intn(31)
		left -= out[i]
	}
	out[many-1] = left
	r.Shuffle(many, func(i, j int) { out[i], out[j] = out[j], out[i] })
	return out
}

// randomLogs are so many logarithms that are at most about so many bits from each other; sometimes all are near an end.
func randomLogs(r *rand.Rand, many, bits int) []int64 {
	from := []int64{random(r, 62), random(r, 62), top, -top}[r.Intn(4)]
	out := make([]int64, many)
	for i := range out {
		by := random(r, bits)
		if off := from + by; off >= -top && off <= top {
			out[i] = off
		} else {
			out[i] = from - by // no two such are beyond MaxTop's size both
		}
	}
	if many > 1 && r.Intn(4) == 0 {
		out[r.Intn(many)] = out[r.Intn(many)]
	}
	return out
}

// farLogs are so many logarithms that often are just as far from each other as may be, or farther.
func farLogs(r *rand.Rand, many int) []int64 {
	ends := []int64{top, -top, 0, 1, -1, 1 << 61, -1 << 61, 1<<61 - 1, 1 - 1<<61}
	out := make([]int64, many)
	for i := range out {
		out[i] = r.Int63n(2*top+1) - top
		if r.Intn(2) == 0 {
			out[i] = ends[r.Intn(len(ends))]
		}
	}
	return out
}

// alone are so many chances, of which one is for sure.
func alone(place, many int) []int64 {
	out := make([]int64, many)
	out[place] = one
	return out
}

// floors are some that may be, with both ends.
var floors = []int64{0, 1, 2, 3, 1000, 1<<20 + 1, highest - 1, highest}

// wrongFloors are some that may not be.
var wrongFloors = []int64{-1, -2, highest + 1, -highest, quarter, one, -one, 1 << 32, 1<<32 + 5, -1 << 32, top, -top, most, least, least + 1}

// beyond are numbers beyond MaxTop's size.
var beyond = []int64{top + 1, -top - 1, top + 2, -top - 2, most - 1, most, least, least + 1}
