package ldl_test

import (
	"math/big"
	"math/rand"
	"testing"

	"radome/ldl"
)

// factored is a matrix, by its numbers up to the middle, and its factors.
type factored struct {
	m table
	l table
	d []int64
}

// wantAll asks for just those factors, of the package and of the tests' own steps.
func wantAll(t *testing.T, cases []factored) {
	t.Helper()
	for _, c := range cases {
		wantOf(t, c.m, c.l, c.d)
		if !checkOf(t, c.m) {
			t.Errorf("%v: no factors by fractions", c.m)
		}
	}
}

// wantNoneOf asks for ErrNone of all of them.
func wantNoneOf(t *testing.T, all []table) {
	t.Helper()
	for _, m := range all {
		wantNoFactors(t, matOf(m), 8)
		if checkOf(t, m) {
			t.Errorf("%v: factors by fractions", m)
		}
	}
}

func TestLD1Of(t *testing.T) {
	ones := scaled(unit, 1, 1, 2, 1, 2, 3, 1, 2, 3, 4, 1, 2, 3, 4, 5, 1, 2, 3, 4, 5, 6)
	wantAll(t, []factored{
		{even(scaled(unit, 4, 2, 3)...), lower(2, whole/2), scaled(unit, 4, 2)}, // the document's
		{even(scaled(unit, 4, -2, 3)...), lower(2, -whole/2), scaled(unit, 4, 2)},
		{even(1), lower(1), []int64{1}}, {even(unit), lower(1), []int64{unit}}, {even(top), lower(1), []int64{top}},
		{even(scaled(unit, 1, 0, 2)...), lower(2), scaled(unit, 1, 2)},
		{even(scaled(unit, 1, 0, 2, 0, 0, 3, 0, 0, 0, 4, 0, 0, 0, 0, 5, 0, 0, 0, 0, 0, 6)...), lower(6), scaled(unit, 1, 2, 3, 4, 5, 6)},
		{even(ones...), lower(6, scaled(whole, 1, 1, 1, 1, 1, 1, 1, 1, 1, 1, 1, 1, 1, 1, 1)...), filled(unit, 6)},
		{even(scaled(unit, 4, 2, 5, -2, 3, 9)...), lower(3, whole/2, -whole/2, whole), scaled(unit, 4, 4, 4)},
		{even(3, 1, 3), lower(2, 357913941), []int64{3, 3}}, {even(3, 2, 3), lower(2, 715827883), []int64{3, 2}}, // a third, two thirds
	})
}

// The last number of D comes out as 1, as 0 and below 0.
func TestLD1OfTheLastNumberOfD(t *testing.T) {
	wantAll(t, []factored{
		{even(4*unit, 2*unit, unit+1), lower(2, whole/2), []int64{4 * unit, 1}},
		{even(scaled(unit, 1, 1, 2, 1, 2, 3)...), lower(3, whole, whole, whole), filled(unit, 3)},
		{even(unit, unit, 2*unit, unit, 2*unit, 2*unit+1), lower(3, whole, whole, whole), []int64{unit, unit, 1}},
	})
	wantNoneOf(t, []table{
		even(0), even(-1), even(-unit), even(-top), even(-top - 1), even(least),
		even(4*unit, 2*unit, unit), even(4*unit, 2*unit, unit-1), even(4*unit, -2*unit, unit), even(4*unit, 2*unit, 0), even(4*unit, 2*unit, -top), even(4*unit, 2*unit, least),
		even(unit, unit, 2*unit, unit, 2*unit, 2*unit), even(unit, unit, 2*unit, unit, 2*unit, 2*unit-1),
		even(0, 0, unit), even(-1, 0, 1), even(0, unit, unit), even(unit, 0, 0, 0, 0, unit), even(filled(0, 21)...), even(filled(1, 21)...), even(filled(-1, 21)...), even(filled(unit, 3)...),
	})
}

// Numbers, and something on the way, that are just at MaxTop's size, and one beyond it.
func TestLD1OfMaxTop(t *testing.T) {
	const half = 1 << 61
	wantAll(t, []factored{
		{even(top, top, top+1), lower(2, whole), []int64{top, 1}}, {even(top, -top, top+1), lower(2, -whole), []int64{top, 1}}, // a rest, a product, and the sum
		{even(top, 0, top), lower(2), []int64{top, top}}, {even(top, 0, top, 0, 0, top), lower(3), []int64{top, top, top}},
		{even(top, top, most-1), lower(2, whole), []int64{top, top}}, {even(top, 1<<61, top), lower(2, whole/2), []int64{top, top - 1<<60}},
		{even(4*unit, 2*unit, top+unit), lower(2, whole/2), []int64{4 * unit, top}},
		{even(half, 0, half-1, half, half-1, top+1), lower(3, 0, whole, whole), []int64{half, half - 1, 1}}, // the sum of two
		{even(half, 0, half-1, -half, 1-half, top+1), lower(3, 0, -whole, -whole), []int64{half, half - 1, 1}},
		{even(top, top, top+1, -top, -top, top+1), lower(3, whole, -whole, 0), []int64{top, 1, 1}}, // a sum of -MaxTop
		{even(top, top, top+1, top, top, top+1), lower(3, whole, whole, 0), []int64{top, 1, 1}},
		{even(4, 3, top+2, -1, top-1, top+1), lower(3, 3*whole/4, -whole/4, whole), []int64{4, top, 1}}, // a rest made greater by what is taken off
		{even(4, 3, top+2, 1, 1-top, top+1), lower(3, 3*whole/4, whole/4, -whole), []int64{4, top, 1}},
	})
	wantNoneOf(t, []table{
		even(top + 1), even(most), even(top, 0, top+1), even(top+1, 0, 1),
		even(top, top+1, top+2), even(top, -top-1, top+2), even(top, most, most), even(top, least, most),
		even(top, top, most), even(top, -top, most), even(4*unit, 2*unit, top+unit+1), even(4*unit, 2*unit, most),
		even(half, 0, half, half, half, top+2), even(half, 0, half, -half, -half, top+2), even(half, 0, half, half, half, most), // the sum alone
		even(4, 3, top+2, -1, top, top+1), even(4, 3, top+2, 1, -top, top+1), // the rest alone
		even(4, 3, top+3, -1, top-1, top+1),                                                                        // a number of D
		even(1, top, most), even(1, -top, most), even(1, 1<<33, top), even(whole, top, most), even(1, 1<<32, most), // L
		even(filled(top, 3)...), even(top, -top, top), even(filled(-top, 3)...), even(filled(most, 21)...), even(filled(least, 21)...), even(filled(top, 21)...),
	})
}

// Quotients, products and sums that lie on just a half before they are rounded: the even one.
func TestLD1OfHalves(t *testing.T) {
	const long = 1 << 31
	wantAll(t, []factored{
		{even(long, 1, 9), lower(2, 0), []int64{long, 9}}, {even(long, 3, 9), lower(2, 2), []int64{long, 9}}, {even(long, 5, 9), lower(2, 2), []int64{long, 9}}, {even(long, 7, 9), lower(2, 4), []int64{long, 9}},
		{even(long, -1, 9), lower(2, 0), []int64{long, 9}}, {even(long, -3, 9), lower(2, -2), []int64{long, 9}}, {even(long, -5, 9), lower(2, -2), []int64{long, 9}}, {even(long, -7, 9), lower(2, -4), []int64{long, 9}},
		{even(2, 1, 1), lower(2, whole/2), []int64{2, 1}}, {even(2, -1, 1), lower(2, -whole/2), []int64{2, 1}}, {even(2, 3, 5), lower(2, 3*whole/2), []int64{2, 1}}, {even(6, 3, 3), lower(2, whole/2), []int64{6, 1}}, {even(6, -3, 4), lower(2, -whole/2), []int64{6, 2}},
		{even(2, 1, 4, 1, 1, 9), lower(3, whole/2, whole/2, whole/4), []int64{2, 4, 8}}, {even(2, 1, 4, 3, 1, 9), lower(3, whole/2, 3*whole/2, -whole/4), []int64{2, 4, 4}}, {even(2, 1, 4, 5, 1, 99), lower(3, whole/2, 5*whole/2, -whole/4), []int64{2, 4, 86}},
		{even(2, 1, 4, -1, 1, 9), lower(3, whole/2, -whole/2, whole/4), []int64{2, 4, 8}}, {even(2, 1, 4, -3, 1, 9), lower(3, whole/2, -3*whole/2, 3*whole/4), []int64{2, 4, 2}}, {even(2, 1, 4, -5, 1, 99), lower(3, whole/2, -5*whole/2, 3*whole/4), []int64{2, 4, 84}},
		{even(2, 0, 2, 1, 1, 2), lower(3, 0, whole/2, whole/2), []int64{2, 2, 1}}, // two halves, rounded once
	})
}

// A product of L and D that lies on just a half (one and a half, two and a half, three and a half): the even one is taken off the number behind it.
func TestLD1OfHalvesOfProducts(t *testing.T) {
	for _, c := range []struct{ first, down, below, product, rest int64 }{
		{3 << 29, 1, 1, 2, 973}, {3 << 29, 2, 1, 2, 973}, {5 << 29, 2, 1, 2, 973}, {5 << 29, 3, 1, 2, 973}, {7 << 29, 3, 1, 4, 969},
		{3 << 29, -1, -1, -2, 980}, {5 << 29, -3, -1, -2, 980}, {7 << 29, -4, -1, -4, 984},
	} {
		wantAll(t, []factored{{
			even(c.first, c.down, 1<<10, c.first, 1000, 1<<40),
			lower(3, c.below, whole, (1000-c.product)<<20),
			[]int64{c.first, 1 << 10, 1<<40 - c.first - c.rest},
		}})
	}
}

func TestLD1OfSmallNumbers(t *testing.T) {
	found := 0
	for a := int64(-1); a <= 9; a++ {
		for b := int64(-9); b <= 9; b++ {
			for c := int64(-1); c <= 9; c++ {
				if checkOf(t, even(a, b, c)) {
					found++
				}
				checkOf(t, even(a*unit/3, b*unit/5, c*unit/7))
				checkOf(t, even(6, b, 7, a, c, 12))
			}
		}
	}
	if found < 300 {
		t.Errorf("only %d of these matrices have factors", found)
	}
}

func TestLD1OfEdges(t *testing.T) {
	for _, a := range edges() {
		checkOf(t, even(a))
		for _, b := range edges() {
			checkOf(t, even(top, a, b))
			checkOf(t, even(a, b, top+1))
			checkOf(t, even(a, 0, b))
			checkOf(t, even(1<<61, a, 1<<62, b, 0, most))
		}
	}
}

func TestLD1OfRandomMatrices(t *testing.T) {
	r := rand.New(rand.NewSource(1))
	var found [7]int
	for i := range 6000 {
		n := 1 + i%6
		if checkOf(t, randomEven(r, n)) {
			found[n]++
		}
	}
	for n := 1; n <= 6; n++ {
		if found[n] < 100 || found[n] > 990 {
			t.Errorf("%d of 1000 matrices of %d rows have factors", found[n], n)
		}
	}
}

// What is answered may be.
func TestLD1FactorsOfAMatrixMayBe(t *testing.T) {
	r := rand.New(rand.NewSource(2))
	for i := range 3000 {
		m := randomEven(r, 1+i%6)
		if f, err := ldl.Of(matOf(m)); err == nil && ldl.Check(f) != nil {
			t.Errorf("Of(%v): %v, which may not be", m, f)
		}
	}
}

// A matrix that is made of whole numbers and halves has just the factors it is made of.
func TestLD4FactorsOfWhatTheyMake(t *testing.T) {
	r := rand.New(rand.NewSource(3))
	for i := range 1200 {
		n := 1 + i%6
		l, d := lower(n), make([]int64, n)
		for i := range l {
			for j := range i {
				l[i][j] = int64(r.Intn(17)-8) * whole / 4
			}
			d[i] = int64(1+r.Intn(50)) * unit
		}
		m, _ := madeTable(l, d)
		wantOf(t, m, l, d)
	}
}

// off is how far the factors may be off the matrix at a place: the sum is rounded once, each product of it and the number of L that it ends in once more.
func off(l table, d []int64, i, j int) *big.Rat {
	out := fraction(1, 1)
	for k := range j {
		size := fraction(l[i][k], 31)
		out.Add(out, size.Abs(size))
	}
	if j < i {
		out.Add(out, fraction(d[j], 31))
	}
	return out
}

// rowsOf are the factors as the tests know them.
func rowsOf(f ldl.Factors) (table, []int64) {
	l := make(table, f.N)
	for i := range l {
		l[i] = f.L[i*f.N : (i+1)*f.N]
	}
	return l, f.D[:f.N]
}

func TestLD4TheFactorsMakeTheMatrix(t *testing.T) {
	r := rand.New(rand.NewSource(4))
	found := 0
	for k := range 4000 {
		m := randomEven(r, 1+k%6)
		f, err := ldl.Of(matOf(m))
		if err != nil {
			continue
		}
		found++
		l, d := rowsOf(f)
		for i := range m {
			for j := 0; j <= i; j++ {
				by := new(big.Rat).Sub(made(l, d, i, j), fraction(m[i][j], 0))
				if by.Abs(by).Cmp(off(l, d, i, j)) > 0 {
					t.Errorf("Of(%v): %v is %s off at %d, %d", m, f, by.FloatString(3), i, j)
				}
			}
		}
	}
	if found < 1000 {
		t.Errorf("only %d matrices had factors", found)
	}
}

// With metres and seconds of everyday size (up to a thousand, each row's middle the greatest) the factors are off by less than two last bits.
func TestLD4TheFactorsAreNear(t *testing.T) {
	r := rand.New(rand.NewSource(5))
	for k := range 1000 {
		n := 1 + k%6
		m := even(vector(r, n*(n+1)/2, 26)...)
		for i := range m {
			m[i][i] = 800*unit + r.Int63n(200*unit)
		}
		f, err := ldl.Of(matOf(m))
		if err != nil {
			t.Fatalf("Of(%v): %v", m, err)
		}
		l, d := rowsOf(f)
		for i := range m {
			for j := range m {
				by := new(big.Rat).Sub(made(l, d, i, j), fraction(m[i][j], 0))
				if by.Abs(by).Cmp(fraction(2, 0)) >= 0 {
					t.Errorf("Of(%v): %s off at %d, %d", m, by.FloatString(3), i, j)
				}
			}
		}
	}
}
