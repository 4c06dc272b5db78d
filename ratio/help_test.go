package ratio_test

import (
	"errors"
	"math/big"
	"math/rand"
	"testing"

	"radome/api"
	"radome/ratio"
	"radome/wide"
)

// The reckoner that the tests hold all answers against is math/big.

var (
	one   = big.NewInt(1)
	above = power(4096)                  // the least that is no number
	top   = new(big.Int).Sub(above, one) // the greatest number
	least = new(big.Int).Neg(top)        // the least number
)

func power(bits int) *big.Int { return new(big.Int).Lsh(one, uint(bits)) }

func isNumber(l ...*big.Int) bool {
	for _, n := range l {
		if n.CmpAbs(top) > 0 {
			return false
		}
	}
	return true
}

func product(a, b *big.Int) *big.Int { return new(big.Int).Mul(a, b) }

func number(t testing.TB, n *big.Int) wide.Int {
	t.Helper()
	a, err := wide.Parse(n.String())
	if err != nil {
		t.Fatalf("Parse(%s): %v", n, err)
	}
	return a
}

// fraction is n by d, which is not 0.
func fraction(t testing.TB, n, d *big.Int) ratio.Ratio {
	t.Helper()
	a, err := ratio.Of(number(t, n), number(t, d))
	if err != nil {
		t.Fatalf("Of(%s, %s): %v", n, d, err)
	}
	return a
}

// small is n by d, which is not 0.
func small(t testing.TB, n, d int64) ratio.Ratio {
	t.Helper()
	return fraction(t, big.NewInt(n), big.NewInt(d))
}

func of(t testing.TB, x *big.Rat) ratio.Ratio {
	t.Helper()
	return fraction(t, x.Num(), x.Denom())
}

// wantFraction asks for x in its one form: its two numbers, its text, and the same value as Of makes.
func wantFraction(t testing.TB, what string, got ratio.Ratio, err error, x *big.Rat) {
	t.Helper()
	n, d := got.Parts()
	if err != nil || n.Text() != x.Num().String() || d.Text() != x.Denom().String() || got.Text() != x.String() {
		t.Errorf("%s: %s and %s, %s, %v; want %s", what, n.Text(), d.Text(), got.Text(), err, x)
		return
	}
	if got != of(t, x) {
		t.Errorf("%s: %s has two forms", what, x)
	}
}

// wantError asks for an error of that number, and for 0 beside it.
func wantError(t testing.TB, what string, got ratio.Ratio, err error, want api.Errno) {
	t.Helper()
	wantErrno(t, what, err, want)
	if got != (ratio.Ratio{}) || got.Text() != "0/1" {
		t.Errorf("%s: %s beside an error; want 0", what, got.Text())
	}
}

// wantNo asks for an error of that number, and for 0 beside it.
func wantNo[N int | int64](t testing.TB, what string, got N, err error, want api.Errno) {
	t.Helper()
	wantErrno(t, what, err, want)
	if got != 0 {
		t.Errorf("%s: %d beside an error; want 0", what, got)
	}
}

func wantErrno(t testing.TB, what string, err error, want api.Errno) {
	t.Helper()
	var got api.Errno
	if !errors.As(err, &got) || got != want {
		t.Errorf("%s: error %v; want %v", what, err, want)
	}
}

// numbers are the edges of layer 1, and what lies about half as many bits, whose products are just numbers or just none.
func numbers() []*big.Int {
	out := []*big.Int{new(big.Int)}
	add := func(n *big.Int) {
		if isNumber(n) {
			out = append(out, n, new(big.Int).Neg(n))
		}
	}
	for _, n := range []int64{1, 2, 3, 6, 10} {
		add(big.NewInt(n))
	}
	for _, bits := range []int{63, 64, 1024, 2048, 4095, 4096} {
		for _, by := range []int64{-1, 0, 1} {
			add(new(big.Int).Add(power(bits), big.NewInt(by)))
		}
	}
	return out
}

// edges are fractions of those numbers, each once.
func edges() []*big.Rat {
	var out []*big.Rat
	seen := map[string]int{}
	for i, n := range numbers() {
		for j, d := range numbers() {
			if d.Sign() <= 0 || (i+j)%3 == 1 && i > 6 { // not all: their pairs are many
				continue
			}
			x := new(big.Rat).SetFrac(n, d)
			if seen[x.String()] == 0 {
				seen[x.String()] = 1
				out = append(out, x)
			}
		}
	}
	return out
}

// random is a number of so many bits at most, of any length and sign.
func random(r *rand.Rand, bits int) *big.Int {
	n := new(big.Int).Rand(r, power(1+r.Intn(bits)))
	if r.Intn(2) == 0 {
		n.Neg(n)
	}
	return n
}

// randomRat is a fraction whose numbers have so many bits at most.
func randomRat(r *rand.Rand, bits int) *big.Rat {
	d := random(r, bits)
	if d.Sign() == 0 {
		d.SetInt64(1)
	}
	return new(big.Rat).SetFrac(random(r, bits), d)
}

// pairs calls f with many pairs of edges, and with so many random pairs: the same ones each time.
func pairs(n int, f func(x, y *big.Rat)) {
	l := edges()
	for i, x := range l {
		for j := i % 31; j < len(l); j += 31 {
			f(x, l[j])
		}
	}
	r := rand.New(rand.NewSource(1))
	for i := range n {
		bits := []int{8, 64, 500, 2040, 2060, 4096}[i%6]
		f(randomRat(r, bits), randomRat(r, bits))
	}
}
