package grow_test

import (
	"fmt"
	"math/big"
	"slices"
	"testing"

	"radome/grow"
)

func TestGW1ExpEdges(t *testing.T) {
	cases := []struct{ x, want int64 }{
		{0, one}, {-1, one - 1024}, {-2, one - 2048}, {-3, one - 3072}, // a last bit of x is 2^10 of those of a power
		{-1 << 10, 1072693760}, {-1 << 20, 395007542}, {-2 << 20, 145315154}, {-10 << 20, 48748},
		{-22531341, 1}, {-22531342, 1}, {-22531343, 0}, // half a last bit, and less
		{-30526334, 0}, {-30526335, 0}, {-31253152, 0}, {-31253153, 0}, // by 2 to the power of 61, 62 and 63
		{lowest + 1, 0}, {lowest, 0}, {lowest - 1, 0}, {-46 << 20, 0}, {-1 << 33, 0}, {-1 << 34, 0}, {-1<<34 - 1, 0},
		{-top, 0}, {-top - 1, 0}, {least + 1, 0}, {least, 0},
	}
	for _, c := range cases {
		wantExp(t, c.x, c.want)
	}
}

// A number next to a multiple of L is halved so often, or once more.
func TestGW1ExpNextToMultiplesOfL(t *testing.T) {
	cases := []struct{ x, want int64 }{
		{-726817, 536871167}, {-726818, 536870655}, {-1453634, 268435711}, {-1453635, 268435455},
		{-2180452, 134217791}, {-2180453, 134217663}, {-7268174, 1048577}, {-7268175, 1048576}, {-21804524, 1}, {-21804525, 1},
	}
	for _, c := range cases {
		wantExp(t, c.x, c.want)
	}
	for _, x := range sides() {
		wantExp(t, x, steppedExp(x))
	}
}

func TestGW1ExpStepByStep(t *testing.T) {
	eachPower(20000, func(x int64) { wantExp(t, x, steppedExp(x)) })
}

// Sums that lie on just a half before they are rounded, or one part of 2^50 beside it.
func TestGW1ExpOfAHalfIsEven(t *testing.T) {
	wantExp(t, -283500, 819371998)
	wantExp(t, -903916, 453440194)
	wantExp(t, -1580809, 237775730)
	wantExp(t, -3942263, 25009854)
	wantExp(t, -368020, steppedExp(-368020))
	wantExp(t, -497000, steppedExp(-497000))
}

// From 0 down, number by number to where half of one is left, then in longer steps, no power is above the one before; at the end nothing is left.
func TestGW1ExpFallsToNought(t *testing.T) {
	before := one + 1
	for x := int64(0); x >= -24<<20; {
		got, err := grow.Exp(x)
		if err != nil || got < 0 || got > before {
			t.Fatalf("Exp(%d): %d, %v; %d before", x, got, err, before)
		}
		before = got
		if x > -726900 {
			x--
		} else {
			x -= 37
		}
	}
	if before != 0 {
		t.Errorf("%d is left", before)
	}
}

func TestGW1ExpErrors(t *testing.T) {
	for _, x := range aboveNought {
		got, err := grow.Exp(x)
		wantWrong(t, fmt.Sprintf("Exp(%d)", x), got, err)
	}
}

func TestGW4PowersAreNear(t *testing.T) {
	eachPower(5000, func(x int64) {
		got, err := grow.Exp(x)
		off := new(big.Int).Mul(big.NewInt(got), power(exactBits-30))
		if x >= 2*lowest { // below that nothing is left of an exact one that could be told
			off.Sub(off, exactPower(x))
		}
		if err != nil || off.CmpAbs(power(exactBits-29)) > 0 {
			t.Errorf("Exp(%d): %d, %v is too far off", x, got, err)
		}
	})
}

func TestGW4PowersRise(t *testing.T) {
	var numbers []int64
	eachPower(20000, func(x int64) { numbers = append(numbers, x, x-1, x/2, x/3) })
	slices.Sort(numbers)
	most := int64(0)
	for _, x := range numbers {
		if x > 0 { // one below the least number of 64 bits
			continue
		}
		got, err := grow.Exp(x)
		if err != nil || got < most-2 {
			t.Errorf("Exp(%d): %d, %v; a lesser number's is %d", x, got, err, most)
		}
		most = max(most, got)
	}
	if most != one {
		t.Errorf("the greatest power is %d", most)
	}
}
