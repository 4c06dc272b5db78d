package turn_test

import (
	"errors"
	"math"
	"math/big"
	"math/rand"
	"testing"

	"radome/api"
	"radome/turn"
)

// The tests reckon directions by whole numbers of 64 bits, modulo a whole turn, and radians by math/big.

const (
	whole   = int64(1) << 32
	quarter = turn.Turn(1) << 30
	half    = turn.Turn(1) << 31
	last    = turn.Turn(1<<32 - 1)
)

var wrongBits = []int{-1, 61, -2, 62, -60, 63, 64, 91, 92, 1 << 32, -1 << 32, math.MaxInt, math.MinInt}

// modulo is n as a part of a turn.
func modulo(n int64) turn.Turn { return turn.Turn((n%whole + whole) % whole) }

// clockwise is how far it is from one to another one, from 0 on.
func clockwise(from, to turn.Turn) int64 { return (int64(to) - int64(from) + whole) % whole }

// edges are the directions that the document names, those of powers of two, and their neighbours.
func edges() []turn.Turn {
	var out []turn.Turn
	for _, n := range []int64{0, 1 << 15, 1 << 16, 1 << 29, 1 << 30, 1 << 31, 3 << 30, whole - 1<<16, whole - 1<<15} {
		for by := int64(-2); by <= 2; by++ {
			out = append(out, modulo(n+by))
		}
	}
	return out
}

// random is a direction; often most of its lower bits are noughts or ones, where halves and carries are found.
func random(r *rand.Rand) turn.Turn {
	n, low := r.Uint32()>>r.Intn(32), uint32(1)<<r.Intn(32)-1
	switch r.Intn(4) {
	case 0:
		n &^= low
	case 1:
		n |= low
	case 2:
		n = ^n
	}
	return turn.Turn(n)
}

// singles calls f with all edges, and with so many random directions: the same ones each time.
func singles(n int, f func(a turn.Turn)) {
	for _, a := range edges() {
		f(a)
	}
	r := rand.New(rand.NewSource(1))
	for range n {
		f(random(r))
	}
}

// pairs calls f with all pairs of edges, and with so many random pairs: the same ones each time.
func pairs(n int, f func(a, b turn.Turn)) {
	for _, a := range edges() {
		for _, b := range edges() {
			f(a, b)
		}
	}
	r := rand.New(rand.NewSource(2))
	for range n {
		f(random(r), random(r))
	}
}

// triples calls f with all triples of edges, and with so many random ones, some of them near each other: the same ones each time.
func triples(n int, f func(a, b, c turn.Turn)) {
	for _, a := range edges() {
		pairs(0, func(b, c turn.Turn) { f(a, b, c) })
	}
	r := rand.New(rand.NewSource(3))
	for range n {
		a := random(r)
		f(a, random(r), random(r))
		f(a, a+turn.Turn(r.Intn(5)-2), a+turn.Turn(r.Intn(5)-2))
	}
}

// exactRadians is what a direction is in radians, with so many bits behind the point, not yet rounded.
func exactRadians(a turn.Turn, bits int) *big.Rat {
	product := new(big.Int).Mul(big.NewInt(int64(a)), big.NewInt(3622009729038561421))
	return new(big.Rat).SetFrac(product, new(big.Int).Lsh(big.NewInt(1), uint(91-bits)))
}

// nearest is the whole number nearest to x, of two such the even one.
func nearest(x *big.Rat) int64 {
	raised := new(big.Rat).Add(x, big.NewRat(1, 2))
	n := new(big.Int).Div(raised.Num(), raised.Denom()).Int64()
	if raised.IsInt() && n%2 != 0 {
		n--
	}
	return n
}

// wantRadians asks for just that answer.
func wantRadians(t testing.TB, a turn.Turn, bits int, want int64) {
	t.Helper()
	if got, err := turn.Radians(a, bits); got != want || err != nil {
		t.Errorf("Radians(%d, %d): %d, %v; want %d", a, bits, got, err, want)
	}
}

// wantArg asks for ErrArg, and for nothing beside it.
func wantArg(t testing.TB, a turn.Turn, bits int) {
	t.Helper()
	got, err := turn.Radians(a, bits)
	var number api.Errno
	if got != 0 || !errors.As(err, &number) || number != 1 {
		t.Errorf("Radians(%d, %d): %d, %v; want error 1 alone", a, bits, got, err)
	}
}
