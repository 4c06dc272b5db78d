package wide_test

import (
	"math"
	"math/big"
	"math/rand"
	"strings"
	"testing"

	"radome/api"
	"radome/wide"
)

func TestWI1OfAndSmall(t *testing.T) {
	for _, n := range []int64{0, 1, -1, 9, -10, 1 << 31, 1 << 32, -1 << 32, 1<<32 - 1, math.MaxInt64, math.MaxInt64 - 1, math.MinInt64, math.MinInt64 + 1} {
		a := wide.Of(n)
		if a.Text() != big.NewInt(n).String() {
			t.Errorf("Of(%d): %s", n, a.Text())
		}
		if got, ok := a.Small(); got != n || !ok {
			t.Errorf("Of(%d).Small(): %d, %v", n, got, ok)
		}
	}
	singles(2000, func(x *big.Int) {
		want := int64(0)
		if x.IsInt64() {
			want = x.Int64()
		}
		if got, ok := number(t, x).Small(); got != want || ok != x.IsInt64() {
			t.Errorf("%s.Small(): %d, %v", x, got, ok)
		}
	})
}

func TestWI1SmallEnds(t *testing.T) {
	for s, is := range map[string]bool{
		"9223372036854775807":           true,
		"9223372036854775808":           false,
		"-9223372036854775808":          true,
		"-9223372036854775809":          false,
		"18446744073709551616":          false, // 2^64: both low words are 0
		"-18446744073709551616":         false,
		"79228162514264337593543950336": false, // 2^96
	} {
		a, err := wide.Parse(s)
		n, ok := a.Small()
		if err != nil || ok != is || !ok && n != 0 {
			t.Errorf("%s: %d, %v, %v", s, n, ok, err)
		}
	}
}

func TestWI1AddSub(t *testing.T) {
	pairs(2000, func(x, y *big.Int) {
		a, b := number(t, x), number(t, y)
		sum, err := a.Add(b)
		wantNumber(t, x.String()+" Add "+y.String(), sum, err, new(big.Int).Add(x, y))
		difference, err := a.Sub(b)
		wantNumber(t, x.String()+" Sub "+y.String(), difference, err, new(big.Int).Sub(x, y))
	})
}

func TestWI1AddSubAtTheEnds(t *testing.T) {
	greatest, lowest := number(t, top), number(t, least)
	got, err := greatest.Add(wide.Of(1))
	wantError(t, "greatest Add 1", err, api.ErrSpill, got)
	got, err = lowest.Sub(wide.Of(1))
	wantError(t, "least Sub 1", err, api.ErrSpill, got)
	got, err = lowest.Add(wide.Of(-1))
	wantError(t, "least Add -1", err, api.ErrSpill, got)
	got, err = greatest.Sub(lowest)
	wantError(t, "greatest Sub least", err, api.ErrSpill, got)
	got, err = greatest.Add(lowest)
	wantNumber(t, "greatest Add least", got, err, new(big.Int))
	got, err = lowest.Add(wide.Of(1))
	wantNumber(t, "least Add 1", got, err, new(big.Int).Add(least, one))
	got, err = greatest.Add(wide.Int{})
	wantNumber(t, "greatest Add 0", got, err, top)
}

func TestWI1Mul(t *testing.T) {
	pairs(2000, func(x, y *big.Int) {
		got, err := number(t, x).Mul(number(t, y))
		wantNumber(t, x.String()+" Mul "+y.String(), got, err, new(big.Int).Mul(x, y))
	})
}

func TestWI1MulAtTheEnds(t *testing.T) {
	root := number(t, half)
	got, err := root.Mul(root)
	wantError(t, "2^2048 squared", err, api.ErrSpill, got)
	below := new(big.Int).Sub(half, one)
	over := new(big.Int).Add(half, one)
	got, err = number(t, below).Mul(number(t, over))
	wantNumber(t, "(2^2048 - 1)(2^2048 + 1)", got, err, top)
	got, err = number(t, below).Mul(number(t, over).Neg())
	wantNumber(t, "(2^2048 - 1)(-2^2048 - 1)", got, err, least)
	got, err = number(t, high).Mul(wide.Of(-2))
	wantError(t, "2^4095 by -2", err, api.ErrSpill, got)
	got, err = number(t, least).Mul(wide.Int{})
	wantNumber(t, "least by 0", got, err, new(big.Int))
	if got.Sign() != 0 || got != (wide.Int{}) {
		t.Errorf("least by 0 has a sign: %d", got.Sign())
	}
}

func TestWI1CmpSignNeg(t *testing.T) {
	pairs(2000, func(x, y *big.Int) {
		if got := number(t, x).Cmp(number(t, y)); got != x.Cmp(y) {
			t.Errorf("%s Cmp %s: %d", x, y, got)
		}
	})
	singles(2000, func(x *big.Int) {
		a := number(t, x)
		if a.Sign() != x.Sign() || a.Cmp(a) != 0 {
			t.Errorf("%s: Sign %d, Cmp with itself %d", x, a.Sign(), a.Cmp(a))
		}
		if got := a.Neg(); got.Text() != new(big.Int).Neg(x).String() || got.Neg().Cmp(a) != 0 {
			t.Errorf("%s.Neg(): %s", x, got.Text())
		}
	})
}

func TestWI1NoughtHasOneForm(t *testing.T) {
	five := wide.Of(5)
	difference, _ := five.Sub(five)
	product, _ := wide.Of(-5).Mul(wide.Int{})
	quotient, rest, _ := wide.Int{}.Div(wide.Of(-5))
	moved, _ := wide.Int{}.Move(4096)
	root, _ := wide.Int{}.Root()
	read, _ := wide.Parse("0")
	for i, a := range []wide.Int{{}, wide.Of(0), wide.Of(0).Neg(), difference, product, quotient, rest, moved, root, read} {
		n, ok := a.Small()
		if a.Text() != "0" || a.Sign() != 0 || a.Cmp(wide.Int{}) != 0 || n != 0 || !ok || a != (wide.Int{}) {
			t.Errorf("0 by way %d: %s, sign %d", i, a.Text(), a.Sign())
		}
	}
}

func TestWI2Examples(t *testing.T) {
	for _, c := range []struct{ a, b, quotient, rest int64 }{
		{-7, 2, -4, 1}, {7, 2, 3, 1}, {7, -2, -3, 1}, {-7, -2, 4, 1},
		{6, 3, 2, 0}, {-6, 3, -2, 0}, {6, -3, -2, 0}, {-6, -3, 2, 0},
		{0, 5, 0, 0}, {0, -5, 0, 0}, {1, 5, 0, 1}, {-1, 5, -1, 4}, {1, -5, 0, 1}, {-1, -5, 1, 4},
		{math.MinInt64, 1, math.MinInt64, 0}, {math.MinInt64, math.MaxInt64, -2, math.MaxInt64 - 1},
	} {
		quotient, rest, err := wide.Of(c.a).Div(wide.Of(c.b))
		q, _ := quotient.Small()
		r, _ := rest.Small()
		if err != nil || q != c.quotient || r != c.rest {
			t.Errorf("%d Div %d: %d, %d, %v; want %d, %d", c.a, c.b, q, r, err, c.quotient, c.rest)
		}
	}
}

func checkDiv(t *testing.T, x, y *big.Int) {
	t.Helper()
	quotient, rest, err := number(t, x).Div(number(t, y))
	if y.Sign() == 0 {
		wantError(t, x.String()+" Div 0", err, api.ErrNought, quotient, rest)
		return
	}
	q, r := new(big.Int).DivMod(x, y, new(big.Int)) // of big's two ways, that with a rest from 0 on
	if err != nil || quotient.Text() != q.String() || rest.Text() != r.String() {
		t.Errorf("%s Div %s: %s, %s, %v; want %s, %s", x, y, quotient.Text(), rest.Text(), err, q, r)
	}
}

func TestWI2Div(t *testing.T) {
	pairs(5000, func(x, y *big.Int) { checkDiv(t, x, y) })
	for _, end := range []*big.Int{top, least} {
		for _, n := range []int64{1, -1, 2, -2} {
			checkDiv(t, end, big.NewInt(n))
		}
	}
}

// A word of the quotient is guessed by the highest words; here the guess is one too great, or as great as a word can be.
func TestWI2DivGuesses(t *testing.T) {
	words := func(l ...int64) *big.Int {
		n := new(big.Int)
		for _, w := range l {
			n.Add(n.Lsh(n, 32), big.NewInt(w))
		}
		return n
	}
	const most, bit = 1<<32 - 1, 1 << 31
	for _, c := range [][2]*big.Int{
		{words(most>>1, most, 0, most), words(bit, 0, 1)},
		{words(bit, 0, 3), words(1<<29, 0, 1)},
		{words(bit-1, most, 0, 0), words(bit, 0, 1)},
		{words(3, 0, bit), words(1, 0, 1<<29)},
		{words(bit, 0, most-1, 0), words(bit, most)},
		{words(most, most-1, most, most), words(most, most, most)},
		{words(most, most, most, most-1), words(most, most)},
		{words(most, 0, 0, 0, 0), words(most, most, most)},
	} {
		checkDiv(t, c[0], c[1])
		checkDiv(t, new(big.Int).Neg(c[0]), c[1])
	}
	r := rand.New(rand.NewSource(3))
	for range 6000 {
		y := random(r)
		if y.Sign() == 0 {
			continue
		}
		x := new(big.Int).Mul(y, random(r))
		x.Add(x, big.NewInt(int64(r.Intn(3)-1))) // just about a multiple
		x.Rem(x, above)
		checkDiv(t, x, y)
	}
}

func TestWI2DivByNought(t *testing.T) {
	for _, a := range []wide.Int{{}, wide.Of(1), wide.Of(-1), number(t, top), number(t, least)} {
		quotient, rest, err := a.Div(wide.Int{})
		wantError(t, a.Text()+" Div 0", err, api.ErrNought, quotient, rest)
	}
}

func TestWI3Root(t *testing.T) {
	check := func(x *big.Int) {
		got, err := number(t, x).Root()
		if x.Sign() < 0 {
			wantError(t, x.String()+" Root", err, api.ErrArg, got)
			return
		}
		wantNumber(t, x.String()+" Root", got, err, new(big.Int).Sqrt(x))
	}
	singles(2000, check)
	for n := range int64(300) {
		check(big.NewInt(n))
	}
	r := rand.New(rand.NewSource(4))
	for range 1000 { // squares, and their neighbours
		x := new(big.Int).Rsh(random(r), 2048)
		x.Mul(x, x)
		for _, by := range []int64{-1, 0, 1} {
			check(new(big.Int).Add(x, big.NewInt(by)))
		}
	}
	got, err := number(t, top).Root()
	wantNumber(t, "greatest Root", got, err, new(big.Int).Sub(half, one))
	got, err = number(t, least).Root()
	wantError(t, "least Root", err, api.ErrArg, got)
	got, err = wide.Of(-1).Root()
	wantError(t, "-1 Root", err, api.ErrArg, got)
}

// moved is x times 2 to the power of bits, cut down.
func moved(x *big.Int, bits int) *big.Int {
	if bits < 0 {
		return new(big.Int).Rsh(x, uint(-bits)) // cuts down, below 0 too
	}
	return new(big.Int).Lsh(x, uint(bits))
}

func TestWI3Move(t *testing.T) {
	check := func(x *big.Int, bits int) {
		got, err := number(t, x).Move(bits)
		wantNumber(t, x.String()+" Move "+big.NewInt(int64(bits)).String(), got, err, moved(x, bits))
	}
	ways := []int{0, 1, 5, 31, 32, 33, 63, 64, 65, 2047, 2048, 4063, 4064, 4095, 4096}
	singles(100, func(x *big.Int) {
		for _, bits := range ways {
			check(x, bits)
			check(x, -bits)
		}
	})
	r := rand.New(rand.NewSource(5))
	for range 1500 {
		x := random(r)
		check(x, r.Intn(8193)-4096)
		check(x, 4096-x.BitLen())
		if x.BitLen() > 0 {
			check(x, 4097-x.BitLen())
		}
		check(x, -int(x.TrailingZeroBits()))
		check(x, max(-4096, -int(x.TrailingZeroBits())-1))
	}
}

func TestWI3MoveEnds(t *testing.T) {
	for _, c := range []struct {
		n    int64
		bits int
		want string
	}{
		{-7, -1, "-4"}, {7, -1, "3"}, {-8, -1, "-4"}, {-1, -1, "-1"}, {1, -1, "0"}, {5, 0, "5"}, {-5, 0, "-5"}, {3, 4, "48"},
		{-1, -4096, "-1"}, {1, -4096, "0"}, {0, 4096, "0"}, {0, -4096, "0"},
		{1, 4095, high.String()}, {-1, 4095, new(big.Int).Neg(high).String()},
	} {
		if got, err := wide.Of(c.n).Move(c.bits); err != nil || got.Text() != c.want {
			t.Errorf("%d Move %d: %s, %v; want %s", c.n, c.bits, got.Text(), err, c.want)
		}
	}
	for _, n := range []int64{1, -1} {
		got, err := wide.Of(n).Move(4096)
		wantError(t, "Move 4096", err, api.ErrSpill, got)
		got, err = wide.Of(2 * n).Move(4095)
		wantError(t, "2 Move 4095", err, api.ErrSpill, got)
	}
	for _, bits := range []int{4097, -4097, math.MaxInt, math.MinInt} {
		for _, a := range []wide.Int{{}, wide.Of(-3), number(t, top)} { // ErrArg comes ahead of ErrSpill
			got, err := a.Move(bits)
			wantError(t, a.Text()+" Move too far", err, api.ErrArg, got)
		}
	}
}

func TestWI4Text(t *testing.T) {
	for n, want := range map[int64]string{0: "0", 7: "7", -7: "-7", 10: "10", -100: "-100", 1000000000: "1000000000", 1000000007: "1000000007", math.MinInt64: "-9223372036854775808", math.MaxInt64: "9223372036854775807"} {
		if got := wide.Of(n).Text(); got != want {
			t.Errorf("Of(%d).Text(): %s", n, got)
		}
	}
	ten := wide.Of(1)
	for noughts := range 1234 {
		if want := "1" + strings.Repeat("0", noughts); ten.Text() != want {
			t.Fatalf("10 to the power of %d: %s", noughts, ten.Text())
		}
		ten, _ = ten.Mul(wide.Of(10))
	}
}

func TestWI4ParseUndoesText(t *testing.T) {
	singles(1500, func(x *big.Int) {
		a, err := wide.Parse(x.String())
		wantNumber(t, "Parse "+x.String(), a, err, x)
		words := wide.Int{} // made by another way than its text
		for at := 4064; at >= 0; at -= 32 {
			word := new(big.Int).Rsh(new(big.Int).Abs(x), uint(at))
			word.And(word, big.NewInt(1<<32-1))
			words, _ = words.Move(32)
			words, _ = words.Add(wide.Of(word.Int64()))
		}
		if x.Sign() < 0 {
			words = words.Neg()
		}
		if a.Cmp(words) != 0 || words.Text() != x.String() {
			t.Errorf("Parse %s: %s; by words: %s", x, a.Text(), words.Text())
		}
	})
}

func TestWI4ParseWrongForm(t *testing.T) {
	digits := strings.Repeat("1", 1301)
	for _, s := range []string{
		"", "-", "--1", "+1", "+0", "-0", "00", "01", "-01", "007", "-00", "1-", "1-1", "-+1", " 1", "1 ", "1\n", "\t1", "1 000", "1,000", "1_000", "0x10", "1e3", "1.0", "a", "1a", "a1", "1a1", "/", ":", "1/", "1:",
		"\x00", "1\x00", "\xff", "1\xff1", "\u0661", "\uff11", "\u22121", "-\u0661",
		digits, "-" + digits, strings.Repeat("0", 1301), "0" + digits[1:], "-0" + digits[:1000], digits + "x", strings.Repeat("9", 1<<16),
	} {
		got, err := wide.Parse(s)
		wantError(t, "Parse "+s, err, api.ErrForm, got)
	}
}

func TestWI4ParseTooGreat(t *testing.T) {
	nines := strings.Repeat("9", 1300)
	one1300 := "1" + strings.Repeat("0", 1299)
	for _, s := range []string{above.String(), new(big.Int).Add(above, one).String(), nines, one1300, nines[:1234]} {
		got, err := wide.Parse(s)
		wantError(t, "Parse "+s, err, api.ErrSpill, got)
		got, err = wide.Parse("-" + s) // a sign is no digit
		wantError(t, "Parse -"+s, err, api.ErrSpill, got)
	}
	for _, n := range []*big.Int{top, least, low64} {
		got, err := wide.Parse(n.String())
		wantNumber(t, "Parse "+n.String(), got, err, n)
	}
	got, err := wide.Parse(nines[:1233])
	if err != nil || got.Text() != nines[:1233] {
		t.Errorf("Parse of 1,233 nines: %v", err)
	}
}
