package ratio_test

import (
	"math/big"
	"math/rand"
	"strconv"
	"testing"

	"radome/ratio"
	"radome/wide"
)

// must is a call's answer where it has to be a fraction.
func must(t *testing.T) func(ratio.Ratio, error) ratio.Ratio {
	return func(a ratio.Ratio, err error) ratio.Ratio {
		t.Helper()
		if err != nil {
			t.Fatal(err)
		}
		return a
	}
}

// laws asks that a, b, c, whose numbers have 400 bits at most, go by the laws of fractions.
func laws(t *testing.T, a, b, c ratio.Ratio) {
	t.Helper()
	is := must(t)
	same := func(law string, x, y ratio.Ratio) {
		t.Helper()
		if order, err := x.Cmp(y); order != 0 || err != nil || x.Text() != y.Text() || x != y {
			t.Errorf("%s: %s and %s, of %s, %s, %s", law, x.Text(), y.Text(), a.Text(), b.Text(), c.Text())
		}
	}
	nought, whole := ratio.Ratio{}, small(t, 1, 1)
	same("a+b = b+a", is(a.Add(b)), is(b.Add(a)))
	same("(a+b)+c = a+(b+c)", is(is(a.Add(b)).Add(c)), is(a.Add(is(b.Add(c)))))
	same("ab = ba", is(a.Mul(b)), is(b.Mul(a)))
	same("(ab)c = a(bc)", is(is(a.Mul(b)).Mul(c)), is(a.Mul(is(b.Mul(c)))))
	same("a(b+c) = ab+ac", is(a.Mul(is(b.Add(c)))), is(is(a.Mul(b)).Add(is(a.Mul(c)))))
	same("a+0 = a", is(a.Add(nought)), a)
	same("1a = a", is(a.Mul(whole)), a)
	same("a by 1 = a", is(a.Div(whole)), a)
	same("0a = 0", is(a.Mul(nought)), nought)
	same("a-a = 0", is(a.Sub(a)), nought)
	same("a-b = a+(0-b)", is(a.Sub(b)), is(a.Add(is(nought.Sub(b)))))
	same("(a-b)+b = a", is(is(a.Sub(b)).Add(b)), a)
	if b != nought {
		same("(a by b)b = a", is(is(a.Div(b)).Mul(b)), a)
		same("b by b = 1", is(b.Div(b)), whole)
		same("a by b = a(1 by b)", is(a.Div(b)), is(a.Mul(is(whole.Div(b)))))
		same("(a+c) by b = a by b + c by b", is(is(a.Add(c)).Div(b)), is(is(a.Div(b)).Add(is(c.Div(b)))))
	}
}

// ordered asks that order agrees with itself, and with differences.
func ordered(t *testing.T, a, b ratio.Ratio) {
	t.Helper()
	there, err := a.Cmp(b)
	back, other := b.Cmp(a)
	difference := must(t)(a.Sub(b))
	n, _ := difference.Parts()
	if err != nil || other != nil || there != -back || n.Sign() != there {
		t.Errorf("%s and %s: Cmp %d and %d, difference %s", a.Text(), b.Text(), there, back, difference.Text())
	}
}

// lowest asks that the second number is above 0, and that none above 1 divides both.
func lowest(t *testing.T, a ratio.Ratio) {
	t.Helper()
	n, d := a.Parts()
	x, _ := new(big.Int).SetString(n.Text(), 10)
	y, _ := new(big.Int).SetString(d.Text(), 10)
	if y.Sign() <= 0 || new(big.Int).GCD(nil, nil, x.Abs(x), y).Cmp(one) != 0 {
		t.Errorf("%s is no fraction", a.Text())
	}
}

func TestRA4Laws(t *testing.T) {
	l := []ratio.Ratio{{}, small(t, 1, 1), small(t, -1, 1), small(t, 1, 2), small(t, -2, 3), small(t, 6, 35), small(t, -1<<63, 3), small(t, 7, 1<<62)}
	for _, a := range l {
		for _, b := range l {
			for _, c := range l {
				laws(t, a, b, c)
			}
			ordered(t, a, b)
		}
	}
	r := rand.New(rand.NewSource(6))
	for range 150 {
		a, b, c := of(t, randomRat(r, 400)), of(t, randomRat(r, 400)), of(t, randomRat(r, 400))
		laws(t, a, b, c)
		ordered(t, a, b)
		lowest(t, must(t)(a.Add(b)))
		lowest(t, must(t)(a.Mul(c)))
	}
}

// What both numbers are multiplied by makes no other fraction.
func TestRA4OneFormForAll(t *testing.T) {
	r := rand.New(rand.NewSource(7))
	for range 200 {
		x, both := randomRat(r, 900), random(r, 900)
		if both.Sign() == 0 {
			continue
		}
		a, b := of(t, x), fraction(t, product(x.Num(), both), product(x.Denom(), both))
		if order, err := a.Cmp(b); a != b || order != 0 || err != nil {
			t.Errorf("%s and %s are two", a.Text(), b.Text())
		}
	}
}

// everything is what all calls answer of two fractions, as text.
func everything(a, b ratio.Ratio, bits int) string {
	tell := func(a ratio.Ratio, err error) string {
		if err != nil {
			return a.Text() + " " + err.Error() + "\n"
		}
		return a.Text() + "\n"
	}
	n, d := a.Parts()
	m, _ := b.Parts()
	out := tell(a.Add(b)) + tell(a.Sub(b)) + tell(a.Mul(b)) + tell(a.Div(b)) + tell(ratio.Of(n, d)) + tell(ratio.Of(n, m)) + tell(ratio.Bits(77, bits))
	order, err := a.Cmp(b)
	if err != nil {
		out += err.Error()
	}
	near, err := a.Near(bits)
	if err != nil {
		out += err.Error()
	}
	return out + strconv.Itoa(order) + " " + strconv.FormatInt(near, 10)
}

// P9: calls change none of their fractions, and answer the same each time.
func TestP9NothingIsChanged(t *testing.T) {
	r := rand.New(rand.NewSource(8))
	for i := range 150 {
		x, y := randomRat(r, []int{20, 300, 2048, 4096}[i%4]), randomRat(r, []int{20, 300, 2048, 4096}[i/4%4])
		a, b, bits := of(t, x), of(t, y), r.Intn(1100)-30
		if everything(a, b, bits) != everything(a, b, bits) {
			t.Errorf("%s and %s: two answers", x, y)
		}
		if a.Text() != x.String() || b.Text() != y.String() {
			t.Errorf("%s or %s was changed", x, y)
		}
	}
}

// P9: an answer lives on unchanged when it, or what it was made of, is reckoned with.
func TestP9AnswersAreAlone(t *testing.T) {
	n, d := wide.Of(3), wide.Of(4)
	a, err := ratio.Of(n, d)
	if err != nil {
		t.Fatal(err)
	}
	first, second := a.Parts()
	copied, is := a, must(t)
	for range 20 {
		a = is(a.Add(small(t, 1, 3)))
		first, _ = first.Add(d)
	}
	if copied.Text() != "3/4" || a.Text() != "89/12" || second.Text() != "4" || n.Text() != "3" || d.Text() != "4" {
		t.Errorf("%s, %s, %s, %s, %s", copied.Text(), a.Text(), second.Text(), n.Text(), d.Text())
	}
	wantParts(t, copied, "3", "4")
}
