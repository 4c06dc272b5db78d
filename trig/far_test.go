package trig_test

import (
	"math/big"
	"math/rand"
	"testing"

	"radome/trig"
	"radome/turn"
)

// squares are both squares together.
func squares(x, y int64) *big.Int {
	a, b := big.NewInt(x), big.NewInt(y)
	return new(big.Int).Add(a.Mul(a, a), b.Mul(b, b))
}

func TestTG3FarEdges(t *testing.T) {
	cases := []struct{ x, y, want int64 }{
		{0, 0, 0}, {0, 1, 1}, {1, 0, 1}, {1, 1, 1}, {1, 2, 2}, {2, 2, 2}, {3, 4, 5}, {4, 8, 8}, {5, 12, 13}, // 2 and 2: one below 9
		{0, top, top}, {top, 0, top}, {1, top, top}, {top, 1, top}, {0, top - 1, top - 1}, {top - 1, 1, top - 1},
		{top, top, top}, {top, 1 << 61, top}, {1 << 61, 1 << 61, 3260954456333195553}, // bounded; the root of 2^123
		{top - 1, 3037000499, top - 1}, {top - 1, 3037000500, top}, // 2^63 less 3 from one root to the next
		{1 << 31, 1 << 31, 3037000499}, {1 << 60, 3 << 59, 2078458800722539360},
	}
	for _, c := range cases {
		wantFar(t, c.x, c.y, c.want)
		wantFar(t, -c.x, c.y, c.want)
		wantFar(t, c.y, -c.x, c.want)
		wantFar(t, -c.y, -c.x, c.want)
	}
}

// The squares of m^2 - n^2 and 2mn are together that of m^2 + n^2.
func TestTG3FarOfAWholeRoot(t *testing.T) {
	r := rand.New(rand.NewSource(4))
	for range 5000 {
		places := r.Intn(30)
		m, n := 1+r.Int63n(1<<30)>>places, r.Int63n(1<<30)>>places
		wantFar(t, m*m-n*n, 2*m*n, m*m+n*n)
	}
}

// The squares of 2n^2 and 2n are together one below that of 2n^2 + 1.
func TestTG3FarJustBelowAWholeRoot(t *testing.T) {
	r := rand.New(rand.NewSource(5))
	for range 5000 {
		n := 1 + r.Int63n(1518500249)>>r.Intn(30)
		wantFar(t, 2*n*n, 2*n, 2*n*n)
		wantFar(t, -2*n, -2*n*n, 2*n*n)
	}
}

func TestTG3FarIsTheRootCutDown(t *testing.T) {
	eachPlace(20000, func(x, y int64) {
		root := new(big.Int).Sqrt(squares(x, y))
		if root.Cmp(big.NewInt(top)) > 0 {
			root.SetInt64(top)
		}
		wantFar(t, x, y, root.Int64())
	})
}

func TestTG3FarErrors(t *testing.T) {
	wrong := func(x, y int64) {
		t.Helper()
		got, err := trig.Far(x, y)
		wantErrno(t, "Far", err, 1)
		if got != 0 {
			t.Errorf("Far(%d, %d): %d beside an error", x, y, got)
		}
	}
	for _, n := range wrongNumbers {
		for _, other := range append(sizes(), wrongNumbers...) {
			wrong(n, other)
			wrong(other, n)
			wrong(n, -other)
			wrong(-other, n)
		}
	}
}

func TestTG3PlaceEdges(t *testing.T) {
	for _, far := range []int64{0, 1, 2, 1000, 1 << 29, 1 << 30, 1 << 61, top - 1, top} {
		wantPlace(t, 0, far, 0, far)
		wantPlace(t, quarter, far, far, 0)
		wantPlace(t, half, far, 0, -far)
		wantPlace(t, 3*quarter, far, -far, 0)
	}
	cases := []struct {
		of        turn.Turn
		far, x, y int64
	}{
		{1, one, 2, one}, {1, one / 4, 0, one / 4}, {1, 3 * one / 4, 2, 3 * one / 4}, // halves: 0.5 and 1.5
		{last, one / 4, 0, one / 4}, {last, 3 * one / 4, -2, 3 * one / 4}, {half + 1, 5 * one / 4, -2, -5 * one / 4},
		{quarter / 2, 1000, 707, 707}, {half + quarter/2, 1000, -707, -707},
		{quarter / 2, top, 3260954456358911999, 3260954456358911999},
	}
	for _, c := range cases {
		wantPlace(t, c.of, c.far, c.x, c.y)
	}
}

// product is a number times a sine or a cosine, rounded.
func product(far, of int64) int64 {
	return nearest(new(big.Int).Mul(big.NewInt(far), big.NewInt(of)), big.NewInt(one)).Int64()
}

func TestTG3PlaceIsFarTimesBoth(t *testing.T) {
	r := rand.New(rand.NewSource(6))
	eachDirection(10000, func(a turn.Turn) {
		sine, cosine := trig.Both(a)
		for _, far := range []int64{0, 1, one / 2, 3 * one / 2, one / 4, one, 1<<61 + one/2, top - 1, top, anySize(r), r.Int63n(top)} {
			wantPlace(t, a, far, product(far, sine), product(far, cosine))
		}
	})
}

func TestTG3PlaceErrors(t *testing.T) {
	for _, far := range append([]int64{-1, -2, -1000, -top}, wrongNumbers...) {
		eachDirection(10, func(a turn.Turn) {
			x, y, err := trig.Place(a, far)
			wantErrno(t, "Place", err, 1)
			if x != 0 || y != 0 {
				t.Errorf("Place(%d, %d): %d, %d beside an error", a, far, x, y)
			}
		})
	}
}

// Rules 1 and 4: every call ends, and answers the same at the same arguments, whatever was called in between.
func TestP9SameAnswers(t *testing.T) {
	type answers struct {
		sine, cosine, far, x, y int64
		angle                   turn.Turn
		errs                    [3]error
	}
	ask := func(a turn.Turn, x, y int64) answers {
		var out answers
		out.sine, out.cosine = trig.Both(a)
		out.angle, out.errs[0] = trig.Angle(x, y)
		out.far, out.errs[1] = trig.Far(x, y)
		out.x, out.y, out.errs[2] = trig.Place(a, x)
		return out
	}
	numbers := append(sizes(), wrongNumbers...)
	var first []answers
	for round := range 2 {
		next := 0
		eachDirection(200, func(a turn.Turn) {
			for i, x := range numbers {
				got := ask(a, x, -numbers[(i*7+int(a%5))%len(numbers)])
				if round == 0 {
					first = append(first, got)
				} else if got != first[next] {
					t.Errorf("%d and %d: %v, and %v before", a, x, got, first[next])
				}
				next++
			}
		})
	}
}
