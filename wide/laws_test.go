package wide_test

import (
	"math/big"
	"math/rand"
	"testing"

	"radome/wide"
)

// must is a call's answer where it has to be a number.
func must(t *testing.T) func(wide.Int, error) wide.Int {
	return func(a wide.Int, err error) wide.Int {
		t.Helper()
		if err != nil {
			t.Fatal(err)
		}
		return a
	}
}

// laws asks that a, b, c, of 1,300 bits at most, go by the laws of whole numbers.
func laws(t *testing.T, a, b, c wide.Int) {
	t.Helper()
	is := must(t)
	same := func(law string, x, y wide.Int) {
		t.Helper()
		if x.Cmp(y) != 0 || x.Text() != y.Text() || x != y {
			t.Errorf("%s: %s and %s, of %s, %s, %s", law, x.Text(), y.Text(), a.Text(), b.Text(), c.Text())
		}
	}
	same("a+b = b+a", is(a.Add(b)), is(b.Add(a)))
	same("(a+b)+c = a+(b+c)", is(is(a.Add(b)).Add(c)), is(a.Add(is(b.Add(c)))))
	same("ab = ba", is(a.Mul(b)), is(b.Mul(a)))
	same("(ab)c = a(bc)", is(is(a.Mul(b)).Mul(c)), is(a.Mul(is(b.Mul(c)))))
	same("a(b+c) = ab+ac", is(a.Mul(is(b.Add(c)))), is(is(a.Mul(b)).Add(is(a.Mul(c)))))
	same("a+0 = a", is(a.Add(wide.Int{})), a)
	same("1a = a", is(a.Mul(wide.Of(1))), a)
	same("0a = 0", is(a.Mul(wide.Int{})), wide.Int{})
	same("a-a = 0", is(a.Sub(a)), wide.Int{})
	same("a-b = a+(-b)", is(a.Sub(b)), is(a.Add(b.Neg())))
	same("(a-b)+b = a", is(is(a.Sub(b)).Add(b)), a)
	same("(-a)b = -(ab)", is(a.Neg().Mul(b)), is(a.Mul(b)).Neg())
	same("a moved = a times a power of 2", is(a.Move(77)), is(a.Mul(is(wide.Of(1).Move(77)))))
}

// split asks that what Div answers makes up a again.
func split(t *testing.T, a, b wide.Int) {
	t.Helper()
	if b.Sign() == 0 {
		return
	}
	quotient, rest, err := a.Div(b)
	if err != nil {
		t.Fatal(err)
	}
	is := must(t)
	far := b
	if b.Sign() < 0 {
		far = b.Neg()
	}
	if rest.Sign() < 0 || rest.Cmp(far) >= 0 || is(is(quotient.Mul(b)).Add(rest)) != a {
		t.Errorf("%s Div %s: %s, %s", a.Text(), b.Text(), quotient.Text(), rest.Text())
	}
}

func TestWI5Laws(t *testing.T) {
	small := []int64{0, 1, -1, 2, -3, 1<<32 - 1, -1 << 32, 1<<63 - 1, -1 << 63}
	for _, a := range small {
		for _, b := range small {
			for _, c := range small {
				laws(t, wide.Of(a), wide.Of(b), wide.Of(c))
			}
			split(t, wide.Of(a), wide.Of(b))
		}
	}
	r := rand.New(rand.NewSource(6))
	shortened := func() wide.Int {
		n := random(r)
		return number(t, n.Quo(n, new(big.Int).Lsh(one, uint(2800+r.Intn(1300)))))
	}
	for range 3000 {
		a, b, c := shortened(), shortened(), shortened()
		laws(t, a, b, c)
		split(t, a, b)
	}
}

// Order agrees with sums and products, as far as these are numbers.
func TestWI5Order(t *testing.T) {
	pairs(1000, func(x, y *big.Int) {
		a, b := number(t, x), number(t, y)
		if a.Cmp(b) != -b.Cmp(a) {
			t.Errorf("Cmp of %s and %s, both ways: %d, %d", x, y, a.Cmp(b), b.Cmp(a))
		}
		if difference, err := a.Sub(b); err == nil && difference.Sign() != a.Cmp(b) {
			t.Errorf("%s Sub %s: sign %d", x, y, difference.Sign())
		}
		if product, err := a.Mul(b); err == nil && product.Sign() != a.Sign()*b.Sign() {
			t.Errorf("%s Mul %s: sign %d", x, y, product.Sign())
		}
	})
}

// everything is what all calls answer of two numbers, as text.
func everything(a, b wide.Int, bits int) string {
	tell := func(what wide.Int, err error) string {
		if err != nil {
			return what.Text() + " " + err.Error() + "\n"
		}
		return what.Text() + "\n"
	}
	quotient, rest, err := a.Div(b)
	n, ok := a.Small()
	out := tell(a.Add(b)) + tell(a.Sub(b)) + tell(a.Mul(b)) + tell(quotient, err) + tell(rest, err) + tell(a.Root()) + tell(a.Move(bits)) + tell(wide.Parse(a.Text()))
	out += a.Neg().Text() + big.NewInt(n).String() + big.NewInt(int64(a.Cmp(b)+a.Sign())).String()
	if ok {
		out += "small"
	}
	return out
}

// P9: calls change none of their numbers, and answer the same each time.
func TestP9NothingIsChanged(t *testing.T) {
	r := rand.New(rand.NewSource(7))
	singles(500, func(x *big.Int) {
		y := random(r)
		a, b := number(t, x), number(t, y)
		bits := r.Intn(8300) - 4150
		first := everything(a, b, bits)
		if second := everything(a, b, bits); first != second {
			t.Errorf("%s and %s: two answers", x, y)
		}
		if a.Text() != x.String() || b.Text() != y.String() {
			t.Errorf("%s or %s was changed", x, y)
		}
	})
}

// P9: an answer lives on unchanged when it is reckoned with.
func TestP9AnswersAreAlone(t *testing.T) {
	is := must(t)
	a := number(t, new(big.Int).Sub(high, one))
	copied, other, up := a, a.Neg(), is(a.Move(0))
	quotient, rest, _ := a.Div(wide.Of(1))
	for range 50 {
		a = is(a.Sub(wide.Of(1)))
	}
	want := new(big.Int).Sub(high, one)
	for i, n := range []wide.Int{copied, other.Neg(), up, quotient} {
		if n.Text() != want.String() {
			t.Errorf("answer %d was changed", i)
		}
	}
	if rest.Sign() != 0 || a.Text() != want.Sub(want, big.NewInt(50)).String() {
		t.Errorf("%s, %s", rest.Text(), a.Text())
	}
}
