package grow_test

import (
	"fmt"
	"math/big"
	"math/rand"
	"testing"

	"radome/grow"
)

// sizes are edges of a number that decays.
func sizes() []int64 {
	return []int64{0, 1, 2, 3, 1 << 19, 3 << 19, 1 << 20, 1<<29 - 1, 1 << 29, 1<<29 + 1, 3 << 29, 1 << 30, 1<<61 - 1, 1 << 61, 1<<61 + 1, top - 1, top}
}

func TestGW3DecayEdges(t *testing.T) {
	cases := []struct{ a, x, want int64 }{
		{0, 0, 0}, {1, 0, 1}, {top, 0, top}, {top - 1, 0, top - 1},
		{0, -1, 0}, {1, -1, 1}, {top, -1, 4611681620380876799}, {1 << 20, -1, 1<<20 - 1}, {1 << 30, -1, one - 1024},
		{1 << 19, -1, 1 << 19}, {3 << 19, -1, 3<<19 - 2}, // halves: 0.5 less, and 1.5
		{1, -726817, 1}, {1, -726818, 0}, {3, -726818, 1}, {1000, -1 << 20, 368}, // just above a half, and just below
		{top, -22531342, 1 << 32}, {top, -22531343, 0}, {1 << 29, -22531342, 0}, {1<<29 + 1, -22531342, 1}, {3 << 29, -22531342, 2}, // by 2^30
		{top, lowest, 0}, {top, lowest - 1, 0}, {top, -top, 0}, {top, least, 0}, {1, least, 0}, {0, least, 0},
	}
	for _, c := range cases {
		wantDecay(t, c.a, c.x, c.want)
		wantDecay(t, -c.a, c.x, -c.want)
	}
}

func TestGW3DecayIsTimesThePower(t *testing.T) {
	r := rand.New(rand.NewSource(8))
	eachPower(3000, func(x int64) {
		factor := big.NewInt(steppedExp(x))
		for _, a := range append(sizes(), r.Int63n(top), r.Int63n(top)>>r.Intn(62)) {
			want := nearest(new(big.Int).Mul(big.NewInt(a), factor), power(30)).Int64()
			wantDecay(t, a, x, want)
			wantDecay(t, -a, x, -want)
		}
	})
}

func TestGW3DecayErrors(t *testing.T) {
	wrong := func(a, x int64) {
		t.Helper()
		got, err := grow.Decay(a, x)
		wantWrong(t, fmt.Sprintf("Decay(%d, %d)", a, x), got, err)
	}
	for _, x := range aboveNought {
		for _, a := range append(sizes(), wrongNumbers...) {
			wrong(a, x)
			wrong(-a, x)
		}
	}
	for _, a := range wrongNumbers {
		for _, x := range powers() {
			wrong(a, x)
		}
	}
}

// Rules 1 and 4: every call ends, and answers the same at the same arguments, whatever was called in between.
func TestP9SameAnswers(t *testing.T) {
	type answers struct {
		exp, log, decay int64
		errs            [3]error
	}
	ask := func(a, x int64, bits int) answers {
		var out answers
		out.exp, out.errs[0] = grow.Exp(x)
		out.log, out.errs[1] = grow.Log(a, bits)
		out.decay, out.errs[2] = grow.Decay(a, x)
		return out
	}
	numbers := append(append(append(powers(), logs()...), wrongNumbers...), aboveNought...)
	places := append([]int{0, 20, 30, 50, 62}, wrongBits...)
	var first []answers
	for round := range 2 {
		next := 0
		for i, x := range numbers {
			for j, bits := range places {
				got := ask(numbers[(i*7+j*31)%len(numbers)], x, bits)
				if round == 0 {
					first = append(first, got)
				} else if got != first[next] {
					t.Errorf("%d with %d bits: %v, and %v before", x, bits, got, first[next])
				}
				next++
			}
		}
	}
}
