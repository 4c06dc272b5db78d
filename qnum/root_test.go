package qnum_test

import (
	"math/big"
	"testing"

	"radome/api"
	"radome/qnum"
)

// checkRoot asks for the greatest whole number whose square is not above, bounded.
func checkRoot(t *testing.T, a int64, bits int) {
	t.Helper()
	got, err := qnum.Root(a, bits)
	if err != nil {
		t.Errorf("Root(%d, %d): %v", a, bits, err)
		return
	}
	exact := new(big.Int).Mul(big.NewInt(a), power(bits))
	if want, _ := bounded(new(big.Int).Sqrt(exact)); got != want {
		t.Errorf("Root(%d, %d): %d; want %d", a, bits, got, want)
	}
	n := big.NewInt(got)
	if n.Sign() < 0 || new(big.Int).Mul(n, n).Cmp(exact) > 0 {
		t.Errorf("Root(%d, %d): the square of %d is above", a, bits, got)
	}
	if n.Add(n, one); got != top && n.Mul(n, n).Cmp(exact) <= 0 {
		t.Errorf("Root(%d, %d): the square of %d and 1 is not above", a, bits, got)
	}
}

func TestQN3Root(t *testing.T) {
	for _, c := range []struct {
		a    int64
		bits int
		want int64
	}{
		{0, 0, 0}, {0, 62, 0}, {1, 0, 1}, {2, 0, 1}, {3, 0, 1}, {4, 0, 2}, {8, 0, 2}, {9, 0, 3}, {15, 0, 3}, {16, 0, 4},
		{2, 1, 2}, {1, 1, 1}, {3, 1, 2}, {4 << 20, 20, 2 << 20}, {2 << 20, 20, 1482910}, {1, 62, 1 << 31}, {1, 61, 1518500249},
		{most, 0, 3037000499}, {top, 0, 1<<31 - 1}, {1 << 62, 0, 1 << 31}, {1<<62 - 1, 0, 1<<31 - 1}, {3037000499 * 3037000499, 0, 3037000499}, {3037000499*3037000499 - 1, 0, 3037000498},
		{top, 62, top}, {1 << 61, 62, 3260954456333195553}, {most, 61, top}, {1 << 62, 61, 3260954456333195553},
	} {
		if got, err := qnum.Root(c.a, c.bits); got != c.want || err != nil {
			t.Errorf("Root(%d, %d): %d, %v; want %d", c.a, c.bits, got, err, c.want)
		}
	}
	singles(3000, func(a int64) {
		if a < 0 {
			return
		}
		for _, bits := range someBits {
			checkRoot(t, a, bits)
		}
	})
}

// Squares, one less and one more.
func TestQN3RootOfSquares(t *testing.T) {
	singles(3000, func(n int64) {
		square := new(big.Int).Mul(big.NewInt(n), big.NewInt(n))
		for _, bits := range someBits {
			shifted := new(big.Int).Rsh(square, uint(bits))
			for by := int64(-1); by <= 1; by++ {
				if a := new(big.Int).Add(shifted, big.NewInt(by)); a.Sign() >= 0 && a.IsInt64() {
					checkRoot(t, a.Int64(), bits)
				}
			}
		}
	})
	for n := int64(1); n < 1<<31; n += 1 + n/50 {
		for by := int64(-1); by <= 1; by++ {
			want := n
			if by < 0 {
				want--
			}
			if n == 1 && by == 1 {
				want = 1
			}
			if got, err := qnum.Root(n*n+by, 0); got != want || err != nil {
				t.Errorf("Root(%d squared and %d): %d, %v", n, by, got, err)
			}
		}
	}
}

// A root above MaxTop, which only a number above MaxTop with 62 bits has, is bounded as all else is.
func TestQN3RootIsBounded(t *testing.T) {
	for _, a := range []int64{top, top + 1, top + 2, most - 1, most} {
		if got, err := qnum.Root(a, 62); got != top || err != nil {
			t.Errorf("Root(%d, 62): %d, %v", a, got, err)
		}
	}
	if got, err := qnum.Root(top-1, 62); got != top-1 || err != nil {
		t.Errorf("Root(MaxTop less 1, 62): %d, %v", got, err)
	}
}

func TestQN3RootWrong(t *testing.T) {
	for _, a := range []int64{-1, -2, -4, -top, least, least + 1} {
		for _, bits := range []int{0, 20, 62, -1, 63} {
			got, err := qnum.Root(a, bits)
			wantError(t, call("Root", a, bits), got, false, err, api.ErrArg)
		}
	}
	for _, bits := range wrong {
		for _, a := range []int64{0, 4, most} {
			got, err := qnum.Root(a, bits)
			wantError(t, call("Root", a, bits), got, false, err, api.ErrArg)
		}
	}
}
