package chance_test

import (
	"math"
	"math/big"
	"testing"

	"radome/chance"
)

func TestCN1Even(t *testing.T) {
	for n, want := range [][]int64{1: {1073741824}, 2: {536870912, 536870912}, 3: {357913942, 357913941, 357913941}, 4: {268435456, 268435456, 268435456, 268435456}} {
		if n == 0 {
			continue
		}
		got, err := chance.Even(n)
		what := call("Even", n)
		wantIs(t, what, got, err, want...)
		wantChances(t, what, got, n, 0)
		ones := make([]*big.Int, n)
		for i := range ones {
			ones[i] = big.NewInt(1)
		}
		wantIs(t, what, got, err, parted(one, ones)...)
		if err := chance.Check(got, highest); err != nil {
			t.Errorf("%s: %v", what, err)
		}
	}
}

func TestCN1WrongEven(t *testing.T) {
	for _, n := range []int{0, -1, -2, -3, -4, 5, 6, 64, 1 << 16, 1<<31 - 1, -1 << 31, 1<<32 + 1, 1<<32 + 3, 1 << 62, math.MaxInt, math.MinInt, math.MaxInt - 1, math.MinInt + 1, math.MinInt + 3} {
		got, err := chance.Even(n)
		wantWrong(t, call("Even", n), got, err, 1)
	}
}
