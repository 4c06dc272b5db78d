package wide_test

import (
	"errors"
	"math/big"
	"math/rand"
	"testing"

	"radome/api"
	"radome/wide"
)

// The reckoner that the tests hold all answers against is math/big.

var (
	one   = big.NewInt(1)
	above = new(big.Int).Lsh(one, 4096)     // the least that is too great
	top   = new(big.Int).Sub(above, one)    // the greatest number
	least = new(big.Int).Neg(top)           // the least number
	high  = new(big.Int).Lsh(one, 4095)     // the highest bit alone
	half  = new(big.Int).Lsh(one, 2048)     // the least whose square is too great
	low64 = new(big.Int).SetInt64(-1 << 63) // the least of 64 bits
)

func number(t testing.TB, n *big.Int) wide.Int {
	t.Helper()
	a, err := wide.Parse(n.String())
	if err != nil {
		t.Fatalf("Parse(%s): %v", n, err)
	}
	return a
}

func isNumber(n *big.Int) bool { return n.CmpAbs(top) <= 0 }

// wantNumber asks for n and no error, or for ErrSpill and 0 if n is no number.
func wantNumber(t testing.TB, what string, got wide.Int, err error, n *big.Int) {
	t.Helper()
	if !isNumber(n) {
		wantError(t, what, err, api.ErrSpill, got)
		return
	}
	if err != nil || got.Text() != n.String() {
		t.Errorf("%s: %s, %v; want %s", what, got.Text(), err, n)
	}
}

// wantError asks for an error of that number, and for 0 beside it.
func wantError(t testing.TB, what string, err error, want api.Errno, beside ...wide.Int) {
	t.Helper()
	var got api.Errno
	if !errors.As(err, &got) || got != want {
		t.Errorf("%s: error %v; want %v", what, err, want)
	}
	for _, a := range beside {
		if a != (wide.Int{}) || a.Text() != "0" {
			t.Errorf("%s: %s beside an error; want 0", what, a.Text())
		}
	}
}

// edges are the numbers that the document names, and their neighbours.
func edges() []*big.Int {
	var out []*big.Int
	add := func(n *big.Int) {
		if isNumber(n) {
			out = append(out, new(big.Int).Set(n))
		}
	}
	for _, n := range []int64{0, 1, 2, 3, 7, 10} {
		add(big.NewInt(n))
		add(big.NewInt(-n))
	}
	for _, bits := range []uint{31, 32, 33, 63, 64, 65, 96, 2047, 2048, 2049, 4064, 4094, 4095, 4096} {
		n := new(big.Int).Lsh(one, bits)
		for _, by := range []int64{-1, 0, 1} {
			near := new(big.Int).Add(n, big.NewInt(by))
			add(near)
			add(near.Neg(near))
		}
	}
	return out
}

// random is a number of any length and sign; often its words are all noughts or all ones, where carries run far.
func random(r *rand.Rand) *big.Int {
	n := new(big.Int)
	for range r.Intn(129) {
		word := int64(r.Uint32())
		switch r.Intn(4) {
		case 0:
			word = 0
		case 1:
			word = 1<<32 - 1
		}
		n.Add(n.Lsh(n, 32), big.NewInt(word))
	}
	n.Rsh(n, uint(r.Intn(64)))
	if r.Intn(2) == 0 {
		n.Neg(n)
	}
	return n
}

// pairs calls f with all pairs of edges, and with so many random pairs: the same ones each time.
func pairs(n int, f func(x, y *big.Int)) {
	for _, x := range edges() {
		for _, y := range edges() {
			f(x, y)
		}
	}
	r := rand.New(rand.NewSource(1))
	for range n {
		f(random(r), random(r))
	}
}

// singles calls f with all edges, and with so many random numbers: the same ones each time.
func singles(n int, f func(x *big.Int)) {
	for _, x := range edges() {
		f(x)
	}
	r := rand.New(rand.NewSource(2))
	for range n {
		f(random(r))
	}
}
