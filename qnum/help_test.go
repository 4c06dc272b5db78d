package qnum_test

import (
	"errors"
	"fmt"
	"math"
	"math/big"
	"math/rand"
	"testing"

	"radome/api"
)

// The reckoner that the tests hold all answers against is math/big: exact fractions, rounded and bounded by their definitions.

const (
	top   = 1<<62 - 1 // MaxTop, written out: the document says both
	most  = math.MaxInt64
	least = math.MinInt64
)

var (
	one      = big.NewInt(1)
	half     = big.NewRat(1, 2)
	wrong    = []int{-1, 63, -2, 64, -62, 65, 127, 1 << 32, -1 << 32, math.MaxInt, math.MinInt}
	allBits  = numbered(63)
	someBits = []int{0, 1, 2, 3, 19, 20, 30, 31, 32, 33, 50, 60, 61, 62}
)

// numbered is 0, 1, 2 .. , n in all.
func numbered(n int) []int {
	out := make([]int, n)
	for i := range out {
		out[i] = i
	}
	return out
}

func power(bits int) *big.Int { return new(big.Int).Lsh(one, uint(bits)) }

func whole(n int64) *big.Rat { return new(big.Rat).SetInt64(n) }

// times is n times 2 to the power of bits, which may be below 0.
func times(n *big.Int, bits int) *big.Rat {
	if bits < 0 {
		return new(big.Rat).SetFrac(n, power(-bits))
	}
	return new(big.Rat).SetInt(new(big.Int).Mul(n, power(bits)))
}

// nearest is the whole number nearest to x, of two such the even one.
func nearest(x *big.Rat) *big.Int {
	raised := new(big.Rat).Add(x, half)
	n := new(big.Int).Div(raised.Num(), raised.Denom()) // Euclid's: cut down, as the second number is above 0
	if raised.IsInt() && n.Bit(0) == 1 {
		n.Sub(n, one)
	}
	return n
}

// bounded is what a call answers of a whole number.
func bounded(n *big.Int) (int64, bool) {
	greatest := big.NewInt(top)
	if n.CmpAbs(greatest) <= 0 {
		return n.Int64(), false
	}
	return int64(n.Sign()) * top, true
}

// wantNear asks for x, rounded and bounded, without an error; and, by itself, for what QN4 says of how near it is.
func wantNear(t testing.TB, what string, got int64, over bool, err error, x *big.Rat) {
	t.Helper()
	n, great := bounded(nearest(x))
	if got != n || over != great || err != nil {
		t.Errorf("%s: %d, %v, %v; want %d, %v", what, got, over, err, n, great)
	}
	off := new(big.Rat).Sub(whole(got), x)
	if !over && off.Abs(off).Cmp(half) > 0 {
		t.Errorf("%s: %d is %s off", what, got, off)
	}
	if got > top || got < -top {
		t.Errorf("%s: %d is too great", what, got)
	}
}

// wantIs asks for just that answer.
func wantIs(t testing.TB, what string, got int64, over bool, err error, n int64, great bool) {
	t.Helper()
	if got != n || over != great || err != nil {
		t.Errorf("%s: %d, %v, %v; want %d, %v", what, got, over, err, n, great)
	}
}

// wantError asks for an error of that number, and for nothing beside it.
func wantError(t testing.TB, what string, got int64, over bool, err error, want api.Errno) {
	t.Helper()
	var number api.Errno
	if !errors.As(err, &number) || number != want {
		t.Errorf("%s: error %v; want %v", what, err, want)
	}
	if got != 0 || over {
		t.Errorf("%s: %d, %v beside an error", what, got, over)
	}
}

// call is how a test tells of a call.
func call(name string, arguments ...any) string { return fmt.Sprintf("%s%v", name, arguments) }

// edges are the numbers that the document names, powers of two, and their neighbours, of both signs.
func edges() []int64 {
	out := []int64{most, most - 1, least, least + 1, least + 2}
	for n := int64(0); n <= 10; n++ {
		out = append(out, n, -n)
	}
	for _, bits := range []int{19, 20, 21, 30, 31, 32, 33, 61, 62} {
		for by := int64(-2); by <= 2; by++ {
			n := int64(1)<<bits + by
			out = append(out, n, -n)
		}
	}
	return out
}

// random is a number of any length and sign; often most of its lower bits are noughts or ones, where halves and carries are found.
func random(r *rand.Rand) int64 {
	n := int64(r.Uint64()) >> r.Intn(64)
	low := int64(1)<<r.Intn(63) - 1
	switch r.Intn(4) {
	case 0:
		n &^= low
	case 1:
		n |= low
	case 2:
		n = n&^low | (low+1)/2
	}
	return n
}

// pairs calls f with all pairs of edges, and with so many random pairs: the same ones each time.
func pairs(n int, f func(a, b int64)) {
	for _, a := range edges() {
		for _, b := range edges() {
			f(a, b)
		}
	}
	r := rand.New(rand.NewSource(1))
	for range n {
		f(random(r), random(r))
	}
}

// singles calls f with all edges, and with so many random numbers: the same ones each time.
func singles(n int, f func(a int64)) {
	for _, a := range edges() {
		f(a)
	}
	r := rand.New(rand.NewSource(2))
	for range n {
		f(random(r))
	}
}

// repeated is a list of the same number.
func repeated(n int64, long int) []int64 {
	out := make([]int64, long)
	for i := range out {
		out[i] = n
	}
	return out
}

// exactDot is the sum of all products, with so many bits behind the point.
func exactDot(a, b []int64, bits int) *big.Rat {
	sum := new(big.Int)
	for i := range a {
		sum.Add(sum, new(big.Int).Mul(big.NewInt(a[i]), big.NewInt(b[i])))
	}
	return times(sum, -bits)
}
