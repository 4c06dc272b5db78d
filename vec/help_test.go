package vec_test

import (
	"errors"
	"fmt"
	"math"
	"math/big"
	"math/rand"
	"slices"
	"testing"

	"radome/api"
	"radome/vec"
)

// The reckoner that the tests hold all answers against is math/big: each part exactly, then rounded and bounded by their definitions.

const (
	top   = int64(1)<<62 - 1 // MaxTop, written out: the document says both
	most  = math.MaxInt64
	least = math.MinInt64
	unit  = int64(1) << 20 // one, as a part
	sure  = int64(1) << 30 // one, as a chance
)

// edgeParts are the parts that the document names, powers of two, and their neighbours, of both signs.
func edgeParts() []int64 {
	out := []int64{0, most, most - 1, least, least + 1}
	for _, n := range []int64{1, 2, 3, unit / 2, unit, unit + unit/2, sure, 1 << 41, 1 << 42, 1 << 52, 1 << 61, 1 << 62} {
		out = append(out, n-1, n, n+1, 1-n, -n, -n-1)
	}
	return append(out, top-1, -top+1)
}

// random is a number of any length and sign; often most of its lower bits are noughts or ones, where halves and carries are found.
func random(r *rand.Rand) int64 {
	n := int64(r.Uint64()) >> r.Intn(64)
	low := int64(1)<<r.Intn(63) - 1
	switch r.Intn(4) {
	case 0:
		n &^= low
	case 1:
		n |= low
	case 2:
		n = n&^low | (low+1)/2
	}
	return n
}

// vector is a vector of so many parts, each an edge or random.
func vector(r *rand.Rand, parts int) []int64 {
	edges := edgeParts()
	out := make([]int64, parts)
	for i := range out {
		out[i] = random(r)
		if r.Intn(3) == 0 {
			out[i] = edges[r.Intn(len(edges))]
		}
	}
	return out
}

// same is a vector all of whose parts are n.
func same(n int64, parts int) []int64 {
	out := make([]int64, parts)
	for i := range out {
		out[i] = n
	}
	return out
}

// nearest is the whole number nearest to n by 2 to the power of bits, of two such the even one.
func nearest(n *big.Int, bits uint) *big.Int {
	one := big.NewInt(1)
	by := new(big.Int).Lsh(one, bits)
	near, rest := new(big.Int).DivMod(n, by, new(big.Int))
	side := rest.Lsh(rest, 1).Cmp(by)
	if side > 0 || side == 0 && near.Bit(0) == 1 {
		near.Add(near, one)
	}
	return near
}

// bounded is what a call answers of a whole number.
func bounded(n *big.Int) (int64, bool) {
	if n.CmpAbs(big.NewInt(top)) > 0 {
		return int64(n.Sign()) * top, true
	}
	return n.Int64(), false
}

// exact is the sum of each vector times its weight, by 2 to the power of bits, rounded and bounded part by part: all calls but Size are of that kind.
func exact(l [][]int64, weights []int64, bits uint) ([]int64, bool) {
	var out []int64
	great := false
	for i := range l[0] {
		sum := new(big.Int)
		for j, v := range l {
			sum.Add(sum, new(big.Int).Mul(big.NewInt(v[i]), big.NewInt(weights[j])))
		}
		n, over := bounded(nearest(sum, bits))
		out, great = append(out, n), great || over
	}
	return out, great
}

// wantIs asks for just that answer.
func wantIs(t testing.TB, what string, got []int64, over bool, err error, want []int64, great bool) {
	t.Helper()
	if !slices.Equal(got, want) || over != great || err != nil {
		t.Errorf("%s: %v, %v, %v; want %v, %v", what, got, over, err, want, great)
	}
}

// wantWrong asks for ErrArg, and for nothing beside it.
func wantWrong(t testing.TB, what string, got []int64, over bool, err error) {
	t.Helper()
	var number api.Errno
	if !errors.As(err, &number) || number != 1 {
		t.Errorf("%s: %v; want error 1", what, err)
	}
	if len(got) != 0 || over {
		t.Errorf("%s: %v, %v beside an error", what, got, over)
	}
}

// call is how a test tells of a call.
func call(name string, arguments ...any) string { return fmt.Sprintf("%s%v", name, arguments) }

func checkAdd(t testing.TB, a, b []int64) {
	t.Helper()
	got, over, err := vec.Add(a, b)
	want, great := exact([][]int64{a, b}, []int64{1, 1}, 0)
	wantIs(t, call("Add", a, b), got, over, err, want, great)
}

func checkSub(t testing.TB, a, b []int64) {
	t.Helper()
	got, over, err := vec.Sub(a, b)
	want, great := exact([][]int64{a, b}, []int64{1, -1}, 0)
	wantIs(t, call("Sub", a, b), got, over, err, want, great)
}

func checkScale(t testing.TB, a []int64, k int64) {
	t.Helper()
	got, over, err := vec.Scale(a, k)
	want, great := exact([][]int64{a}, []int64{k}, 20)
	wantIs(t, call("Scale", a, k), got, over, err, want, great)
}

func checkJoin(t testing.TB, l [][]int64, chances []int64) {
	t.Helper()
	got, over, err := vec.Join(l, chances)
	want, great := exact(l, chances, 30)
	wantIs(t, call("Join", l, chances), got, over, err, want, great)
}
