package ratio_test

import (
	"math"
	"math/big"
	"math/rand"
	"strconv"
	"testing"

	"radome/api"
	"radome/ratio"
	"radome/wide"
)

func TestRA1Of(t *testing.T) {
	for _, c := range []struct {
		n, d int64
		want string
	}{
		{3, 6, "1/2"}, {-3, 6, "-1/2"}, {3, -6, "-1/2"}, {-3, -6, "1/2"}, {6, 3, "2/1"}, {7, 7, "1/1"}, {-7, 7, "-1/1"}, {5, 1, "5/1"}, {5, -1, "-5/1"}, {1, 5, "1/5"}, {1, -5, "-1/5"},
		{0, 1, "0/1"}, {0, 9, "0/1"}, {0, -9, "0/1"}, {30, 42, "5/7"}, {13, 8, "13/8"}, {math.MinInt64, math.MinInt64, "1/1"}, {math.MinInt64, -1, "9223372036854775808/1"}, {1, math.MinInt64, "-1/9223372036854775808"},
	} {
		got, err := ratio.Of(wide.Of(c.n), wide.Of(c.d))
		wantFraction(t, "Of", got, err, big.NewRat(c.n, c.d))
		if got.Text() != c.want {
			t.Errorf("Of(%d, %d): %s; want %s", c.n, c.d, got.Text(), c.want)
		}
	}
}

func TestRA1OfTakesOutWhatBothHave(t *testing.T) {
	check := func(n, d *big.Int) {
		got, err := ratio.Of(number(t, n), number(t, d))
		wantFraction(t, "Of "+n.String()+", "+d.String(), got, err, new(big.Rat).SetFrac(n, d))
	}
	for _, n := range numbers() {
		for _, d := range numbers() {
			if d.Sign() != 0 {
				check(n, d)
			}
		}
	}
	r := rand.New(rand.NewSource(2))
	for range 300 {
		x, both := randomRat(r, 2048), random(r, 2000)
		if both.Sign() != 0 {
			check(product(x.Num(), both), product(x.Denom(), both))
		}
	}
	for _, n := range []*big.Int{top, least} {
		check(n, top)
		check(n, least)
	}
}

func TestRA1OfBesideNought(t *testing.T) {
	for _, n := range []*big.Int{new(big.Int), one, big.NewInt(-1), top, least} {
		got, err := ratio.Of(number(t, n), wide.Int{})
		wantError(t, n.String()+" by 0", got, err, api.ErrNought)
	}
}

func TestRA1Bits(t *testing.T) {
	r := rand.New(rand.NewSource(3))
	l := []int64{0, 1, -1, 2, -2, 3, 1 << 20, -1 << 20, 5 << 40, 1 << 62, math.MaxInt64, math.MinInt64, math.MinInt64 + 1, int64(r.Uint64()), int64(r.Uint64())}
	for _, n := range l {
		for _, bits := range []int{0, 1, 2, 20, 30, 62, 63, 64, 65, 1000, 1023, 1024} {
			got, err := ratio.Bits(n, bits)
			wantFraction(t, "Bits "+strconv.FormatInt(n, 10)+", "+strconv.Itoa(bits), got, err, new(big.Rat).SetFrac(big.NewInt(n), power(bits)))
		}
		for _, bits := range []int{-1, 1025, math.MinInt, math.MaxInt, -1024, 4096} {
			got, err := ratio.Bits(n, bits)
			wantError(t, "Bits with "+strconv.Itoa(bits)+" bits", got, err, api.ErrArg)
		}
	}
}

// wantParts asks for two numbers, as texts.
func wantParts(t *testing.T, a ratio.Ratio, first, second string) {
	t.Helper()
	n, d := a.Parts()
	if n.Text() != first || d.Text() != second {
		t.Errorf("Parts: %s and %s; want %s and %s", n.Text(), d.Text(), first, second)
	}
}

func TestRA1Parts(t *testing.T) {
	wantParts(t, ratio.Ratio{}, "0", "1")
	wantParts(t, small(t, 0, -4), "0", "1")
	wantParts(t, small(t, 6, -4), "-3", "2")
	wantParts(t, small(t, -8, -4), "2", "1")
	wantParts(t, fraction(t, least, top), "-1", "1")
	below := new(big.Int).Sub(top, one)
	wantParts(t, fraction(t, least, below), least.String(), below.String())
}

// The Ratio of noughts does all that any other 0 does.
func TestRA1NoughtHasOneForm(t *testing.T) {
	five := small(t, 5, 7)
	difference, _ := five.Sub(five)
	sum, _ := five.Add(small(t, -5, 7))
	nothing, _ := five.Mul(ratio.Ratio{})
	none, _ := ratio.Ratio{}.Div(small(t, -5, 7))
	bits, _ := ratio.Bits(0, 1024)
	for i, a := range []ratio.Ratio{{}, small(t, 0, 3), difference, sum, nothing, none, bits} {
		wantParts(t, a, "0", "1")
		near, err := a.Near(1024)
		if a != (ratio.Ratio{}) || a.Text() != "0/1" || near != 0 || err != nil {
			t.Errorf("0 by way %d: %s, near %d, %v", i, a.Text(), near, err)
		}
		got, err := a.Add(five)
		wantFraction(t, "0 Add 5/7", got, err, big.NewRat(5, 7))
		got, err = five.Add(a)
		wantFraction(t, "5/7 Add 0", got, err, big.NewRat(5, 7))
		got, err = a.Sub(five)
		wantFraction(t, "0 Sub 5/7", got, err, big.NewRat(-5, 7))
		got, err = five.Sub(a)
		wantFraction(t, "5/7 Sub 0", got, err, big.NewRat(5, 7))
		got, err = five.Div(a)
		wantError(t, "5/7 Div 0", got, err, api.ErrNought)
		got, err = a.Div(a)
		wantError(t, "0 Div 0", got, err, api.ErrNought)
		if got, err := a.Cmp(five); got != -1 || err != nil {
			t.Errorf("0 Cmp 5/7: %d, %v", got, err)
		}
		if got, err := a.Cmp(ratio.Ratio{}); got != 0 || err != nil {
			t.Errorf("0 Cmp 0: %d, %v", got, err)
		}
	}
}

// crossed is the first number of each by the second of the other, and both second ones together.
func crossed(x, y *big.Rat) (*big.Int, *big.Int, *big.Int) {
	return product(x.Num(), y.Denom()), product(y.Num(), x.Denom()), product(x.Denom(), y.Denom())
}

// checkSum asks for the sum or, where one of what it takes is no number, for ErrSpill.
func checkSum(t *testing.T, x, y *big.Rat) {
	t.Helper()
	what := x.String() + " Add " + y.String()
	got, err := of(t, x).Add(of(t, y))
	first, second, together := crossed(x, y)
	if isNumber(first, second, together, new(big.Int).Add(first, second)) {
		wantFraction(t, what, got, err, new(big.Rat).Add(x, y))
	} else {
		wantError(t, what, got, err, api.ErrSpill)
	}
}

func checkDifference(t *testing.T, x, y *big.Rat) {
	t.Helper()
	what := x.String() + " Sub " + y.String()
	got, err := of(t, x).Sub(of(t, y))
	first, second, together := crossed(x, y)
	if isNumber(first, second, together, new(big.Int).Sub(first, second)) {
		wantFraction(t, what, got, err, new(big.Rat).Sub(x, y))
	} else {
		wantError(t, what, got, err, api.ErrSpill)
	}
}

func checkProduct(t *testing.T, x, y *big.Rat) {
	t.Helper()
	what := x.String() + " Mul " + y.String()
	got, err := of(t, x).Mul(of(t, y))
	if isNumber(product(x.Num(), y.Num()), product(x.Denom(), y.Denom())) {
		wantFraction(t, what, got, err, new(big.Rat).Mul(x, y))
	} else {
		wantError(t, what, got, err, api.ErrSpill)
	}
}

func checkQuotient(t *testing.T, x, y *big.Rat) {
	t.Helper()
	what := x.String() + " Div " + y.String()
	got, err := of(t, x).Div(of(t, y))
	switch {
	case y.Sign() == 0:
		wantError(t, what, got, err, api.ErrNought)
	case isNumber(product(x.Num(), y.Denom()), product(x.Denom(), y.Num())):
		wantFraction(t, what, got, err, new(big.Rat).Quo(x, y))
	default:
		wantError(t, what, got, err, api.ErrSpill)
	}
}

func checkOrder(t *testing.T, x, y *big.Rat) {
	t.Helper()
	what := x.String() + " Cmp " + y.String()
	got, err := of(t, x).Cmp(of(t, y))
	first, second, _ := crossed(x, y)
	if !isNumber(first, second) {
		wantNo(t, what, got, err, api.ErrSpill)
	} else if err != nil || got != x.Cmp(y) {
		t.Errorf("%s: %d, %v; want %d", what, got, err, x.Cmp(y))
	}
}

func TestRA2Examples(t *testing.T) {
	for _, c := range []struct{ n, d, m, e int64 }{
		{1, 6, 1, 3}, {1, 2, 1, 3}, {1, 2, -1, 2}, {-1, 2, -1, 2}, {3, 4, 4, 3}, {-3, 4, 4, -3}, {2, 3, -3, 2}, {0, 1, 5, 7}, {5, 7, 0, 1}, {0, 1, 0, 1}, {-5, 1, 5, 1}, {1, math.MaxInt64, math.MinInt64, 1},
	} {
		x, y := big.NewRat(c.n, c.d), big.NewRat(c.m, c.e)
		checkSum(t, x, y)
		checkDifference(t, x, y)
		checkProduct(t, x, y)
		checkQuotient(t, x, y)
		checkOrder(t, x, y)
	}
	if got, err := small(t, 1, 6).Add(small(t, 1, 3)); err != nil || got.Text() != "1/2" {
		t.Errorf("1/6 and 1/3: %s, %v", got.Text(), err)
	}
}

func TestRA2AddSub(t *testing.T) {
	pairs(600, func(x, y *big.Rat) {
		checkSum(t, x, y)
		checkDifference(t, x, y)
	})
}

func TestRA2Mul(t *testing.T) {
	pairs(600, func(x, y *big.Rat) { checkProduct(t, x, y) })
}

func TestRA2Div(t *testing.T) {
	pairs(600, func(x, y *big.Rat) { checkQuotient(t, x, y) })
}

func TestRA2Cmp(t *testing.T) {
	pairs(600, func(x, y *big.Rat) { checkOrder(t, x, y) })
	for _, c := range []struct {
		n, d, m, e int64
		want       int
	}{
		{1, 2, 1, 3, 1}, {-1, 2, -1, 3, -1}, {1, 3, 1, 2, -1}, {-1, 3, 1, 3, -1}, {1, 3, -1, 3, 1}, {2, 6, 1, 3, 0}, {0, 5, 0, -7, 0}, {1, -2, -1, 2, 0},
	} {
		if got, err := small(t, c.n, c.d).Cmp(small(t, c.m, c.e)); got != c.want || err != nil {
			t.Errorf("%d/%d Cmp %d/%d: %d, %v", c.n, c.d, c.m, c.e, got, err)
		}
	}
}

// The greatest numbers of layer 1: what still is a number, and what is none, by each call.
func TestRA2AtTheEnds(t *testing.T) {
	whole := func(n *big.Int) *big.Rat { return new(big.Rat).SetInt(n) }
	by := func(d *big.Int) *big.Rat { return new(big.Rat).SetFrac(one, d) }
	half := power(2048)
	below, over := new(big.Int).Sub(half, one), new(big.Int).Add(half, one)
	l := []*big.Rat{
		new(big.Rat), whole(one), whole(big.NewInt(-1)), big.NewRat(1, 2), whole(big.NewInt(2)),
		whole(top), whole(least), by(top), by(least), new(big.Rat).SetFrac(top, new(big.Int).Sub(top, one)),
		whole(half), by(half), whole(below), by(below), whole(over), by(over),
		whole(power(4095)), by(power(4095)), whole(new(big.Int).Sub(power(4095), one)), whole(new(big.Int).Neg(power(4095))),
	}
	for _, x := range l {
		for _, y := range l {
			checkSum(t, x, y)
			checkDifference(t, x, y)
			checkProduct(t, x, y)
			checkQuotient(t, x, y)
			checkOrder(t, x, y)
		}
	}
}

// Each of what is asked for on the way, alone, is no number, where the answer would have been one.
func TestRA2SpillsOnTheWay(t *testing.T) {
	spill := func(what string, got ratio.Ratio, err error) {
		t.Helper()
		wantError(t, what, got, err, api.ErrSpill)
	}
	whole := func(n *big.Int) ratio.Ratio { return fraction(t, n, one) }
	high, half := power(4095), power(2048)
	two := big.NewInt(2)
	got, err := whole(high).Add(small(t, -1, 2))
	spill("the first by 2", got, err)
	got, err = small(t, -1, 2).Add(whole(high))
	spill("the other first by 2", got, err)
	got, err = whole(high).Add(whole(high))
	spill("the sum", got, err)
	got, err = whole(least).Sub(small(t, 1, 1))
	spill("the difference", got, err)
	got, err = fraction(t, one, half).Sub(fraction(t, one, half))
	spill("both second ones, for 0", got, err)
	got, err = fraction(t, one, half).Add(fraction(t, one, half))
	spill("both second ones, for 1 by 2^2047", got, err)
	got, err = ratio.Ratio{}.Add(fraction(t, one, top))
	wantFraction(t, "0 and the least above it", got, err, new(big.Rat).SetFrac(one, top))
	got, err = whole(half).Mul(fraction(t, half, big.NewInt(3)))
	spill("the first ones' product", got, err)
	got, err = fraction(t, one, half).Mul(fraction(t, one, half))
	spill("the second ones' product", got, err)
	got, err = fraction(t, half, big.NewInt(3)).Mul(fraction(t, product(half, big.NewInt(3)), one))
	spill("a product that both halves would shorten", got, err)
	got, err = whole(half).Div(fraction(t, one, half))
	spill("the first by the other's second", got, err)
	got, err = fraction(t, one, half).Div(whole(half))
	spill("the second by the other's first", got, err)
	got, err = fraction(t, two, top).Div(fraction(t, two, top))
	spill("one that is divided by itself", got, err)
	got, err = whole(top).Div(whole(top))
	wantFraction(t, "the greatest by itself", got, err, big.NewRat(1, 1))
}

func TestRA2CmpSpills(t *testing.T) {
	huge, little := fraction(t, top, one), fraction(t, one, top)
	for _, c := range []struct{ a, b ratio.Ratio }{
		{huge, little}, {little, huge}, {huge, small(t, 1, 2)}, {small(t, 1, 2), huge}, {huge, small(t, -1, 2)}, {little, small(t, 2, 1)}, {small(t, -2, 1), little},
		{fraction(t, big.NewInt(2), top), fraction(t, big.NewInt(2), top)}, // one, held against itself
	} {
		got, err := c.a.Cmp(c.b)
		wantNo(t, c.a.Text()+" Cmp "+c.b.Text(), got, err, api.ErrSpill)
	}
	for _, c := range []struct {
		a, b ratio.Ratio
		want int
	}{{huge, huge, 0}, {little, little, 0}, {huge, ratio.Ratio{}, 1}, {ratio.Ratio{}, little, -1}, {little, small(t, 1, 1), -1}, {huge, small(t, -1, 1), 1}} {
		if got, err := c.a.Cmp(c.b); got != c.want || err != nil {
			t.Errorf("%s Cmp %s: %d, %v; want %d", c.a.Text(), c.b.Text(), got, err, c.want)
		}
	}
}

func TestRA2DivByNought(t *testing.T) {
	for _, a := range []ratio.Ratio{{}, small(t, 1, 2), fraction(t, top, one), fraction(t, least, new(big.Int).Sub(top, one))} {
		for _, nought := range []ratio.Ratio{{}, small(t, 0, -3)} {
			got, err := a.Div(nought)
			wantError(t, a.Text()+" Div 0", got, err, api.ErrNought)
		}
	}
}

func TestRA3Text(t *testing.T) {
	for _, c := range []struct {
		a    ratio.Ratio
		want string
	}{
		{ratio.Ratio{}, "0/1"}, {small(t, 0, 5), "0/1"}, {small(t, 1, 2), "1/2"}, {small(t, 2, -4), "-1/2"}, {small(t, 100, 10), "10/1"}, {small(t, -10, 300), "-1/30"},
		{fraction(t, least, one), least.String() + "/1"}, {fraction(t, big.NewInt(-1), top), "-1/" + top.String()},
	} {
		if got := c.a.Text(); got != c.want {
			t.Errorf("Text: %s; want %s", got, c.want)
		}
	}
}
