package trig_test

import (
	"errors"
	"math"
	"math/big"
	"math/rand"
	"testing"

	"radome/api"
	"radome/trig"
	"radome/turn"
)

// The tests turn pairs by math/big, with angles that are reckoned from their series, and hold sines and directions against exact ones, with exactBits bits behind the point.

const (
	quarter   = turn.Turn(1) << 30
	half      = turn.Turn(1) << 31
	last      = turn.Turn(1<<32 - 1)
	top       = int64(api.MaxTop)
	one       = int64(1) << 30 // as a sine
	exactBits = 160
)

var wrongNumbers = []int64{top + 1, -top - 1, top + 2, -top - 2, math.MaxInt64, math.MinInt64, math.MinInt64 + 1}

// power is 2 to the power of so many.
func power(bits int) *big.Int { return new(big.Int).Lsh(big.NewInt(1), uint(bits)) }

// nearest is the whole number nearest to a by b, of two such the even one.
func nearest(a, b *big.Int) *big.Int {
	double := new(big.Int).Lsh(b, 1)
	near, rest := new(big.Int).DivMod(new(big.Int).Add(new(big.Int).Lsh(a, 1), b), double, new(big.Int))
	if rest.Sign() == 0 && near.Bit(0) == 1 {
		near.Sub(near, big.NewInt(1))
	}
	return near
}

// arctan is the angle whose tangent is 1 by n, in radians.
func arctan(n *big.Int) *big.Int {
	sum, term, square := new(big.Int), new(big.Int).Div(power(exactBits), n), new(big.Int).Mul(n, n)
	for i := int64(1); term.Sign() != 0; i += 2 {
		part := new(big.Int).Div(term, big.NewInt(i))
		if i%4 == 1 {
			sum.Add(sum, part)
		} else {
			sum.Sub(sum, part)
		}
		term.Div(term, square)
	}
	return sum
}

// halfTurn is half a turn in radians, by Machin's sum.
func halfTurn() *big.Int {
	first := new(big.Int).Lsh(arctan(big.NewInt(5)), 4)
	return first.Sub(first, new(big.Int).Lsh(arctan(big.NewInt(239)), 2))
}

var exactHalfTurn = halfTurn()

// stepAngles are the angles of all steps, as parts of 2^62 of a turn.
func stepAngles() []*big.Int {
	out := []*big.Int{power(59)}
	for k := 1; k < 40; k++ {
		out = append(out, nearest(new(big.Int).Lsh(arctan(power(k)), 61), exactHalfTurn))
	}
	return out
}

var exactAngles = stepAngles()

// exactBoth are the sine and the cosine of a direction, by their series, with exactBits bits behind the point.
func exactBoth(a turn.Turn) (sine, cosine *big.Int) {
	radians := new(big.Int).Mul(big.NewInt(int64(a)), exactHalfTurn)
	radians.Rsh(radians, 31)
	sums := [2]*big.Int{new(big.Int), new(big.Int)} // of the even powers, and of the odd ones
	term := power(exactBits)
	for i := int64(0); term.Sign() != 0; i++ {
		if sum := sums[i%2]; i%4 < 2 {
			sum.Add(sum, term)
		} else {
			sum.Sub(sum, term)
		}
		term.Rsh(term.Mul(term, radians), exactBits)
		term.Div(term, big.NewInt(i+1))
	}
	return sums[1], sums[0]
}

// step turns a pair by the angle whose tangent is 2^-k; what is divided is cut down.
func step(x, y *big.Int, k int, anticlockwise bool) (*big.Int, *big.Int) {
	byX, byY := new(big.Int).Div(x, power(k)), new(big.Int).Div(y, power(k))
	if anticlockwise {
		return new(big.Int).Sub(x, byY), new(big.Int).Add(y, byX)
	}
	return new(big.Int).Add(x, byY), new(big.Int).Sub(y, byX)
}

// steppedBoth are the sine and the cosine as TG1 says.
func steppedBoth(a turn.Turn) (sine, cosine int64) {
	x, y := big.NewInt(495056041134655927), big.NewInt(495056041134655927)
	rest := new(big.Int).Mul(big.NewInt(int64(a)%one), power(30))
	rest.Sub(rest, power(59))
	for k, angle := range exactAngles {
		anticlockwise := rest.Sign() >= 0
		x, y = step(x, y, k, anticlockwise)
		if anticlockwise {
			rest.Sub(rest, angle)
		} else {
			rest.Add(rest, angle)
		}
	}
	c, s := nearest(x, power(30)).Int64(), nearest(y, power(30)).Int64()
	return [4]int64{s, c, -s, -c}[int64(a)/one], [4]int64{c, -s, -c, s}[int64(a)/one]
}

// steppedAngle is the direction of a place that is not wrong, as TG2 says.
func steppedAngle(x, y int64) turn.Turn {
	u, v := new(big.Int).Abs(big.NewInt(y)), new(big.Int).Abs(big.NewInt(x))
	for u.Cmp(power(59)) < 0 && v.Cmp(power(59)) < 0 {
		u, v = u.Mul(u, power(1)), v.Mul(v, power(1))
	}
	for u.Cmp(power(60)) >= 0 || v.Cmp(power(60)) >= 0 {
		u, v = u.Div(u, power(1)), v.Div(v, power(1))
	}
	z := new(big.Int)
	for k, angle := range exactAngles {
		anticlockwise := v.Sign() <= 0
		u, v = step(u, v, k, anticlockwise)
		if anticlockwise {
			z.Sub(z, angle)
		} else {
			z.Add(z, angle)
		}
	}
	angle := nearest(z, power(30)).Int64()
	switch {
	case x >= 0 && y >= 0:
		return turn.Turn(angle)
	case x >= 0:
		return turn.Turn(1<<31 - angle)
	case y < 0:
		return turn.Turn(1<<31 + angle)
	}
	return turn.Turn((1<<32 - angle) % (1 << 32))
}

// delicate are first quarters' directions at which the least change is seen: a sine or a cosine lies on a half, or next to one; or nothing of the rest is left ahead of the last step.
func delicate() []turn.Turn {
	return []turn.Turn{
		176247672, 897494152, 164744437, 908997387, 299956275, 773785549, 49156936, 1024584888, 194579611, 879162213,
		151438034, 326679459, 439615733, 634126091, 747062365, 922303790,
	}
}

// directions are those that the document names, those of powers of two, all with their neighbours, and the delicate ones, in each quarter.
func directions() []turn.Turn {
	var out []turn.Turn
	for at := range turn.Turn(4) {
		for _, a := range []turn.Turn{0, quarter / 2, 1 << 10, 1 << 16, 1 << 28, 3 << 28, 357913941} {
			for by := range turn.Turn(5) {
				out = append(out, at*quarter+a+by-2)
			}
		}
		for _, a := range delicate() {
			out = append(out, at*quarter+a)
		}
	}
	return out
}

// eachDirection calls f with all named directions, and with so many random ones: the same ones each time.
func eachDirection(n int, f func(a turn.Turn)) {
	for _, a := range directions() {
		f(a)
	}
	r := rand.New(rand.NewSource(1))
	for range n {
		f(turn.Turn(r.Uint32()))
	}
}

// sizes are edges of a place's numbers: of few bits and of many, such as are moved up, as they are, or down.
func sizes() []int64 {
	return []int64{0, 1, 2, 3, 1000, 1 << 20, 1<<31 + 1, 1<<59 - 1, 1 << 59, 1<<59 + 1, 1<<60 - 1, 1 << 60, 1<<60 + 3, 1<<61 - 1, 1 << 61, 1<<61 + 7, top - 1, top}
}

// anySize is a number from 0 to MaxTop, of any length; often its lower bits are noughts or ones.
func anySize(r *rand.Rand) int64 {
	n, low := r.Int63n(top+1)>>r.Intn(62), int64(1)<<r.Intn(60)-1
	switch r.Intn(4) {
	case 0:
		n &^= low
	case 1:
		n |= low
	}
	return n & top
}

// eachPlace calls f with all edges, and with so many random places, all of them in all four quarters: the same ones each time.
func eachPlace(n int, f func(x, y int64)) {
	around := func(x, y int64) {
		f(x, y)
		f(x, -y)
		f(-x, -y)
		f(-x, y)
	}
	for _, x := range sizes() {
		for _, y := range sizes() {
			around(x, y)
		}
	}
	r := rand.New(rand.NewSource(2))
	for range n {
		around(anySize(r), anySize(r))
	}
}

// wantErrno asks for that number.
func wantErrno(t testing.TB, what string, err error, want api.Errno) {
	t.Helper()
	var number api.Errno
	if !errors.As(err, &number) || number != want {
		t.Errorf("%s: %v; want error %d", what, err, want)
	}
}

// wantBoth asks for just that answer.
func wantBoth(t testing.TB, a turn.Turn, sine, cosine int64) {
	t.Helper()
	if s, c := trig.Both(a); s != sine || c != cosine {
		t.Errorf("Both(%d): %d, %d; want %d, %d", a, s, c, sine, cosine)
	}
}

// wantAngle asks for just that answer.
func wantAngle(t testing.TB, x, y int64, want turn.Turn) {
	t.Helper()
	if got, err := trig.Angle(x, y); got != want || err != nil {
		t.Errorf("Angle(%d, %d): %d, %v; want %d", x, y, got, err, want)
	}
}

// wantFar asks for just that answer.
func wantFar(t testing.TB, x, y, want int64) {
	t.Helper()
	if got, err := trig.Far(x, y); got != want || err != nil {
		t.Errorf("Far(%d, %d): %d, %v; want %d", x, y, got, err, want)
	}
}

// wantPlace asks for just that answer.
func wantPlace(t testing.TB, a turn.Turn, far, x, y int64) {
	t.Helper()
	if gotX, gotY, err := trig.Place(a, far); gotX != x || gotY != y || err != nil {
		t.Errorf("Place(%d, %d): %d, %d, %v; want %d, %d", a, far, gotX, gotY, err, x, y)
	}
}
