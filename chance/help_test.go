package chance_test

import (
	"errors"
	"fmt"
	"math"
	"math/big"
	"math/rand"
	"slices"
	"testing"

	"radome/api"
	"radome/chance"
)

// The reckoner that the tests hold all answers against parts by shares as the chapter's words say it, in fractions of math/big.

const (
	one     = int64(1) << 30   // what chances sum to
	highest = int64(1) << 26   // the greatest floor
	top     = int64(1)<<62 - 1 // MaxTop, written out: the document says both
	most    = math.MaxInt64
	least   = math.MinInt64
)

// sumOf is the sum, exactly.
func sumOf(l []*big.Int) *big.Int {
	out := new(big.Int)
	for _, n := range l {
		out.Add(out, n)
	}
	return out
}

// bigs are the same numbers.
func bigs(l []int64) []*big.Int {
	var out []*big.Int
	for _, n := range l {
		out = append(out, big.NewInt(n))
	}
	return out
}

// parted is a whole by shares.
func parted(whole int64, weights []*big.Int) []int64 {
	all := sumOf(weights)
	out, places := make([]int64, len(weights)), make([]int, len(weights))
	cut := make([]*big.Rat, len(weights))
	left := whole
	for i, n := range weights {
		part := new(big.Rat).SetFrac(new(big.Int).Mul(big.NewInt(whole), n), all)
		down := new(big.Int).Div(part.Num(), part.Denom())
		cut[i] = part.Sub(part, new(big.Rat).SetInt(down))
		out[i], places[i] = down.Int64(), i
		left -= out[i]
	}
	slices.SortStableFunc(places, func(a, b int) int { return cut[b].Cmp(cut[a]) })
	for _, place := range places[:left] {
		out[place]++
	}
	return out
}

// reckonedOf is what CN2 says of weights and a floor that may be.
func reckonedOf(weights []int64, floor int64) []int64 {
	out := parted(one-floor*int64(len(weights)), bigs(weights))
	for i := range out {
		out[i] += floor
	}
	return out
}

// mixed are the w of CN3.
func mixed(l []int64, rows [][]int64) []*big.Int {
	out := bigs(make([]int64, len(l)))
	for i, row := range rows {
		for j, n := range row {
			out[j].Add(out[j], new(big.Int).Mul(big.NewInt(l[i]), big.NewInt(n)))
		}
	}
	return out
}

// call is how a test tells of a call.
func call(name string, arguments ...any) string { return fmt.Sprintf("%s%v", name, arguments) }

// wantIs asks for just that answer.
func wantIs(t testing.TB, what string, got []int64, err error, want ...int64) {
	t.Helper()
	if !slices.Equal(got, want) || err != nil {
		t.Errorf("%s: %v, %v; want %v", what, got, err, want)
	}
}

// wantError asks for an error's number.
func wantError(t testing.TB, what string, err error, number api.Errno) {
	t.Helper()
	var got api.Errno
	if !errors.As(err, &got) || got != number {
		t.Errorf("%s: %v; want error %d", what, err, number)
	}
}

// wantWrong asks for an error's number, and for nothing beside it.
func wantWrong(t testing.TB, what string, got []int64, err error, number api.Errno) {
	t.Helper()
	wantError(t, what, err, number)
	if len(got) != 0 {
		t.Errorf("%s: %v beside an error", what, got)
	}
}

// wantChances asks for as many chances as there are to be, none below a floor: by what the words say, not by Check.
func wantChances(t testing.TB, what string, got []int64, many int, floor int64) {
	t.Helper()
	sum := sumOf(bigs(got))
	if len(got) != many || sum.Cmp(big.NewInt(one)) != 0 || slices.Min(got) < floor {
		t.Errorf("%s: %v sum to %v", what, got, sum)
	}
}

// wantOrder asks that a greater weight has no lesser chance.
func wantOrder(t testing.TB, what string, weights []*big.Int, got []int64) {
	t.Helper()
	for i := range got {
		for j := range got {
			if weights[i].Cmp(weights[j]) > 0 && got[i] < got[j] {
				t.Errorf("%s: %v: place %d has less than place %d", what, got, i, j)
			}
		}
	}
}

// checkOf asks Of for what CN2 and CN4 say, of weights that are not all 0 and a floor that may be.
func checkOf(t testing.TB, weights []int64, floor int64) []int64 {
	t.Helper()
	got, err := chance.Of(weights, floor)
	what := call("Of", weights, floor)
	wantIs(t, what, got, err, reckonedOf(weights, floor)...)
	wantChances(t, what, got, len(weights), floor)
	wantOrder(t, what, bigs(weights), got)
	if err := chance.Check(got, floor); err != nil {
		t.Errorf("%s: %v: Check: %v", what, got, err)
	}
	return got
}

// checkMix asks Mix for what CN3 and CN4 say, of chances.
func checkMix(t testing.TB, l []int64, rows [][]int64) []int64 {
	t.Helper()
	got, err := chance.Mix(l, rows)
	what := call("Mix", l, rows)
	weights := mixed(l, rows)
	wantIs(t, what, got, err, parted(one, weights)...)
	wantChances(t, what, got, len(l), 0)
	wantOrder(t, what, weights, got)
	return got
}

// shared are so many chances, none below a floor; some often are just that.
func shared(r *rand.Rand, many int, floor int64) []int64 {
	out := make([]int64, many)
	left := one - floor*int64(many)
	for i := range many - 1 {
		n := r.Int63n(left+1) >> r.Intn(31)
		out[i] = floor + n
		left -= n
	}
	out[many-1] = floor + left
	r.Shuffle(many, func(i, j int) { out[i], out[j] = out[j], out[i] })
	return out
}

// sharedRows are as many rows of chances.
func sharedRows(r *rand.Rand, many int) [][]int64 {
	out := make([][]int64, many)
	for i := range out {
		out[i] = shared(r, many, 0)
	}
	return out
}

// itself are the rows by which each becomes itself.
func itself(many int) [][]int64 {
	out := make([][]int64, many)
	for i := range out {
		out[i] = alone(i, many)
	}
	return out
}

// alone are so many chances, of which one is 2^30.
func alone(place, many int) []int64 {
	out := make([]int64, many)
	out[place] = one
	return out
}

// weight is one of any length, or an edge.
func weight(r *rand.Rand) int64 {
	edges := []int64{0, 1, 2, 3, one - 1, one, one + 1, highest, 1 << 34, 1 << 61, 1<<61 - 1, 1<<61 + 1, top - 1, top}
	if r.Intn(3) == 0 {
		return edges[r.Intn(len(edges))]
	}
	return r.Int63() & top >> r.Intn(62)
}

// weighed are so many weights, not all of them 0; often some are the same, or differ by one.
func weighed(r *rand.Rand, many int) []int64 {
	out := make([]int64, many)
	for i := range out {
		out[i] = weight(r)
		if i > 0 && r.Intn(3) == 0 {
			out[i] = min(max(out[r.Intn(i)]+r.Int63n(3)-1, 0), top)
		}
	}
	if slices.Max(out) == 0 {
		out[r.Intn(many)] = 1 + weight(r)/2
	}
	return out
}

// floors are some that may be, with both ends.
var floors = []int64{0, 1, 2, 3, 1000, 1<<20 + 1, highest/3 + 1, highest - 1, highest}

// wrongFloors are some that may not be.
var wrongFloors = []int64{-1, -2, highest + 1, -highest, one / 4, one, -one, 1 << 32, 1<<32 + 5, -1 << 32, top, -top, most, least, least + 1}
