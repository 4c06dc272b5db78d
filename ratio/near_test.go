package ratio_test

import (
	"math"
	"math/big"
	"math/rand"
	"strconv"
	"testing"

	"radome/api"
	"radome/ratio"
)

// nearest is the whole number nearest to x, of two such the even one, found otherwise than the program does: by how far off the two beside it are.
func nearest(x *big.Rat) *big.Int {
	low := new(big.Int).Div(x.Num(), x.Denom()) // cuts down, as the second number is above 0
	high := new(big.Int).Add(low, one)
	toLow := new(big.Rat).Sub(x, new(big.Rat).SetInt(low))
	toHigh := new(big.Rat).Sub(new(big.Rat).SetInt(high), x)
	switch toLow.Cmp(toHigh) {
	case -1:
		return low
	case 1:
		return high
	}
	if low.Bit(0) == 0 {
		return low
	}
	return high
}

func checkNear(t *testing.T, x *big.Rat, bits int) {
	t.Helper()
	what := x.String() + " Near " + strconv.Itoa(bits)
	got, err := of(t, x).Near(bits)
	want := nearest(new(big.Rat).Mul(x, new(big.Rat).SetInt(power(bits))))
	if !want.IsInt64() || !isNumber(product(x.Num(), power(bits+1))) {
		wantNo(t, what, got, err, api.ErrSpill)
	} else if err != nil || got != want.Int64() {
		t.Errorf("%s: %d, %v; want %s", what, got, err, want)
	}
}

func TestRA3NearExamples(t *testing.T) {
	for _, c := range []struct {
		n, d int64
		bits int
		want int64
	}{
		{1, 2, 0, 0}, {3, 2, 0, 2}, {5, 2, 0, 2}, {7, 2, 0, 4}, {-1, 2, 0, 0}, {-3, 2, 0, -2}, {-5, 2, 0, -2}, {-7, 2, 0, -4},
		{1, 4, 1, 0}, {3, 4, 1, 2}, {-1, 4, 1, 0}, {-3, 4, 1, -2}, {1, 2, 1, 1}, {-1, 2, 1, -1}, {5, 8, 2, 2}, {7, 8, 2, 4},
		{1, 3, 0, 0}, {2, 3, 0, 1}, {-1, 3, 0, 0}, {-2, 3, 0, -1}, {4, 3, 0, 1}, {5, 3, 0, 2}, {-4, 3, 0, -1}, {-5, 3, 0, -2},
		{499, 1000, 0, 0}, {501, 1000, 0, 1}, {-499, 1000, 0, 0}, {-501, 1000, 0, -1}, {1499, 1000, 0, 1}, {-1499, 1000, 0, -1}, {1501, 1000, 0, 2}, {-1501, 1000, 0, -2},
		{0, 1, 0, 0}, {0, 1, 1024, 0}, {7, 1, 0, 7}, {-7, 1, 0, -7}, {1, 1, 20, 1 << 20}, {-1, 1, 62, -1 << 62}, {1, 3, 2, 1}, {1, 3, 20, 349525}, {2, 3, 20, 699051},
	} {
		if got, err := small(t, c.n, c.d).Near(c.bits); err != nil || got != c.want {
			t.Errorf("%d/%d Near %d: %d, %v; want %d", c.n, c.d, c.bits, got, err, c.want)
		}
	}
}

// Halves, and what is just beside them, over even and odd numbers.
func TestRA3NearHalves(t *testing.T) {
	wholes := []*big.Int{big.NewInt(math.MaxInt64), big.NewInt(math.MaxInt64 - 1), big.NewInt(math.MinInt64), big.NewInt(math.MinInt64 + 1), new(big.Int).Lsh(one, 40), new(big.Int).Lsh(one, 64)}
	for n := int64(-9); n <= 9; n++ {
		wholes = append(wholes, big.NewInt(n))
	}
	for _, bits := range []int{0, 1, 20, 63, 1023, 1024} {
		for _, n := range wholes {
			for _, by := range []*big.Rat{new(big.Rat), big.NewRat(1, 2), big.NewRat(-1, 2), big.NewRat(1, 3), new(big.Rat).SetFrac(new(big.Int).Add(power(900), one), power(901)), new(big.Rat).SetFrac(new(big.Int).Sub(power(900), one), power(901))} {
				x := new(big.Rat).Add(new(big.Rat).SetInt(n), by)
				checkNear(t, x.Quo(x, new(big.Rat).SetInt(power(bits))), bits)
			}
		}
	}
}

// The bounds of 64 bits: a half above the greatest is rounded out of them, a half below the least into them.
func TestRA3NearAtTheBounds(t *testing.T) {
	greatest, lowest := big.NewInt(math.MaxInt64), big.NewInt(math.MinInt64)
	for _, c := range []struct {
		whole *big.Int
		n, d  int64
		want  int64
		ok    bool
	}{
		{greatest, 0, 1, math.MaxInt64, true}, {greatest, 1, 3, math.MaxInt64, true}, {greatest, 499, 1000, math.MaxInt64, true}, {greatest, 1, 2, 0, false}, {greatest, 2, 3, 0, false}, {greatest, 1, 1, 0, false}, {greatest, -1, 2, math.MaxInt64 - 1, true},
		{lowest, 0, 1, math.MinInt64, true}, {lowest, -1, 3, math.MinInt64, true}, {lowest, -1, 2, math.MinInt64, true}, {lowest, -501, 1000, 0, false}, {lowest, -2, 3, 0, false}, {lowest, -1, 1, 0, false}, {lowest, 1, 2, math.MinInt64, true},
	} {
		for _, bits := range []int{0, 30, 1024} {
			x := new(big.Rat).Add(new(big.Rat).SetInt(c.whole), big.NewRat(c.n, c.d))
			x.Quo(x, new(big.Rat).SetInt(power(bits)))
			got, err := of(t, x).Near(bits)
			if !c.ok {
				wantNo(t, x.String(), got, err, api.ErrSpill)
			} else if err != nil || got != c.want {
				t.Errorf("%s Near %d: %d, %v; want %d", x, bits, got, err, c.want)
			}
		}
	}
	for _, bits := range []int{0, 1, 1024} {
		got, err := fraction(t, top, one).Near(bits)
		wantNo(t, "the greatest", got, err, api.ErrSpill)
		got, err = fraction(t, least, one).Near(bits)
		wantNo(t, "the least", got, err, api.ErrSpill)
	}
}

// The first number, moved by the bits and 1 more, is a number or just none; the answer would have 64 bits both times.
func TestRA3NearOnTheWay(t *testing.T) {
	for _, bits := range []int{0, 1, 20, 63, 1023, 1024} {
		most := new(big.Int).Sub(power(4096-bits-1), one) // the greatest that may be moved
		for _, n := range []*big.Int{most, new(big.Int).Neg(most)} {
			far := new(big.Rat).SetFrac(n, top)
			got, err := of(t, far).Near(bits)
			if err != nil {
				t.Errorf("just a number, %d bits: %d, %v", bits, got, err)
			}
			checkNear(t, far, bits)
		}
		for _, n := range []*big.Int{power(4096 - bits - 1), new(big.Int).Neg(power(4096 - bits - 1))} {
			far := new(big.Rat).SetFrac(n, top)
			got, err := of(t, far).Near(bits)
			wantNo(t, "just no number, "+strconv.Itoa(bits)+" bits", got, err, api.ErrSpill)
			checkNear(t, far, bits)
		}
	}
	x := new(big.Rat).SetFrac(new(big.Int).Sub(top, one), top) // nearly 1, but twice its first number is none
	got, err := of(t, x).Near(0)
	wantNo(t, "nearly 1", got, err, api.ErrSpill)
}

func TestRA3NearWrongBits(t *testing.T) {
	for _, a := range []ratio.Ratio{{}, small(t, 1, 2), fraction(t, top, one), fraction(t, least, one)} { // ErrArg comes ahead of ErrSpill
		for _, bits := range []int{-1, 1025, -1024, 4096, math.MinInt, math.MaxInt} {
			got, err := a.Near(bits)
			wantNo(t, a.Text()+" Near "+strconv.Itoa(bits), got, err, api.ErrArg)
		}
	}
}

func TestRA3Near(t *testing.T) {
	for i, x := range edges() {
		for _, bits := range []int{0, 1, 62, 63, 1023, 1024, i % 1025} {
			checkNear(t, x, bits)
		}
	}
	r := rand.New(rand.NewSource(4))
	for range 1500 {
		x := randomRat(r, 200)
		checkNear(t, x, r.Intn(80))
		checkNear(t, x, max(0, min(1024, x.Denom().BitLen()-x.Num().BitLen()+60+r.Intn(8)))) // about as great as 64 bits are
	}
	for range 200 {
		x := randomRat(r, 4096)
		checkNear(t, x, r.Intn(1025))
		checkNear(t, x, 0)
	}
}

// Near undoes Bits.
func TestRA3NearOfBits(t *testing.T) {
	r := rand.New(rand.NewSource(5))
	for _, n := range []int64{0, 1, -1, 6, math.MaxInt64, math.MinInt64, int64(r.Uint64()), int64(r.Uint64())} {
		for _, bits := range []int{0, 1, 20, 30, 500, 1023, 1024} {
			a, err := ratio.Bits(n, bits)
			if err != nil {
				t.Fatal(err)
			}
			if got, err := a.Near(bits); err != nil || got != n {
				t.Errorf("Bits %d, %d, Near: %d, %v", n, bits, got, err)
			}
		}
	}
}
