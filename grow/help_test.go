package grow_test

import (
	"errors"
	"math"
	"math/big"
	"math/rand"
	"testing"

	"radome/api"
	"radome/grow"
)

// The tests go the chapter's steps by math/big, and hold powers and logarithms against exact ones, with exactBits bits behind the point.

const (
	top       = int64(1)<<62 - 1 // MaxTop, written out: the document says both
	most      = math.MaxInt64
	least     = math.MinInt64
	one       = int64(1) << 30  // as a power
	lowest    = -45 * (1 << 20) // the least number whose power is reckoned
	exactBits = 300
)

var (
	wrongNumbers = []int64{top + 1, -top - 1, top + 2, -top - 2, most, most - 1, least, least + 1}
	wrongBits    = []int{-1, 63, -2, 64, -62, -50, 112, 1 << 32, -1 << 32, math.MaxInt, math.MinInt}
	aboveNought  = []int64{1, 2, 1 << 20, 45 << 20, 1 << 34, top, top + 1, most - 1, most}
	logOfTwo     = big.NewInt(780414346020670)
)

// power is 2 to the power of so many.
func power(bits int) *big.Int { return new(big.Int).Lsh(big.NewInt(1), uint(bits)) }

// nearest is the whole number nearest to a by b, of two such the even one.
func nearest(a, b *big.Int) *big.Int {
	double := new(big.Int).Lsh(b, 1)
	near, rest := new(big.Int).DivMod(new(big.Int).Add(new(big.Int).Lsh(a, 1), b), double, new(big.Int))
	if rest.Sign() == 0 && near.Bit(0) == 1 {
		near.Sub(near, big.NewInt(1))
	}
	return near
}

// times is a product by 2^50, rounded.
func times(a, b *big.Int) *big.Int { return nearest(new(big.Int).Mul(a, b), power(50)) }

// cut is a by n, cut towards 0.
func cut(a *big.Int, n int) *big.Int { return new(big.Int).Quo(a, big.NewInt(int64(n))) }

// steppedExp is the power of a number that is not above 0, as GW1 says.
func steppedExp(x int64) int64 {
	if x < lowest {
		return 0
	}
	y := new(big.Int).Mul(big.NewInt(-x), power(30))
	k := new(big.Int).Quo(y, logOfTwo)
	r := new(big.Int).Sub(y, new(big.Int).Mul(k, logOfTwo))
	sum, term := power(50), power(50)
	for n := range 20 {
		term = cut(times(term, r), n+1)
		if n%2 == 0 {
			sum.Sub(sum, term)
		} else {
			sum.Add(sum, term)
		}
	}
	return nearest(sum, power(20+int(k.Int64()))).Int64()
}

// raised is a number above 0, moved so that it is from 2^50 on, below 2^51, and by how many bits down.
func raised(x int64) (*big.Int, int) {
	m, down := big.NewInt(x), 0
	for m.Cmp(power(50)) < 0 {
		m, down = m.Mul(m, power(1)), down-1
	}
	for m.Cmp(power(51)) >= 0 {
		m, down = m.Div(m, power(1)), down+1
	}
	return m, down
}

// steppedLog is the logarithm of a number that is not wrong, as GW2 says.
func steppedLog(x int64, bits int) int64 {
	m, down := raised(x)
	less, more := new(big.Int).Sub(m, power(50)), new(big.Int).Add(m, power(50))
	s := nearest(less.Mul(less, power(50)), more)
	q := times(s, s)
	sum, u := new(big.Int), s
	for n := range 20 {
		sum.Add(sum, cut(u, 2*n+1))
		u = times(u, q)
	}
	sum.Mul(sum, big.NewInt(2))
	sum.Add(sum, new(big.Int).Mul(big.NewInt(int64(down-bits+50)), logOfTwo))
	return nearest(sum, power(30)).Int64()
}

// exactPower is e to the power of a number with 20 bits behind the point, of either sign, by its series.
func exactPower(x int64) *big.Int {
	sum, term := new(big.Int), power(exactBits)
	for n := int64(1); term.Sign() != 0; n++ {
		sum.Add(sum, term)
		term.Mul(term, big.NewInt(x))
		term.Quo(term, new(big.Int).Mul(power(20), big.NewInt(n)))
	}
	return sum
}

// sides are the numbers next to whole multiples of L, on both sides: none but 0 is just at one.
func sides() []int64 {
	var out []int64
	for k := int64(1); k <= 64; k++ {
		at := new(big.Int).Mul(big.NewInt(k), logOfTwo)
		below := at.Quo(at, power(30)).Int64()
		out = append(out, 1-below, -below, -below-1, -below-2)
	}
	return out
}

// delicate are the numbers whose powers are within a few parts of 2^50 of a half before they are rounded: the least change of a step is seen there.
func delicate() []int64 {
	return []int64{
		-283500, -903916, -1580809, -3942263, // just a half
		-368020, -497000, -3542155, -25572, -1366731, -6535174, -85288, -215416, -2011952, -2886505, -3423144, -303970, -1234458,
		-32, -93253, -248278, -487086, -780157, -1007039, -464148, -519185, -624046, -1027036, -1183331, -1824977,
		-367702, -392527, -436183, -518485, -284682, -315792, -675396,
	}
}

// powers are the numbers that the document names for Exp, those of powers of two with their neighbours, and the delicate ones.
func powers() []int64 {
	out := append(sides(), delicate()...)
	for n := range int64(100) {
		out = append(out, -n, lowest+n, lowest-n, -22531342+n-50) // the last: where half a last bit is left
	}
	for bits := range 26 {
		out = append(out, 1-int64(1)<<bits, -int64(1)<<bits, -1-int64(1)<<bits)
	}
	for n := range int64(45) {
		out = append(out, -n<<20-1, -n<<20)
	}
	return append(out, -1<<30, -1<<31, -1<<32, -1<<34, -1<<44, -top, -top-1, least, least+1)
}

// eachPower calls f with all named numbers, and with so many random ones: the same ones each time.
func eachPower(n int, f func(x int64)) {
	for _, x := range powers() {
		f(x)
	}
	r := rand.New(rand.NewSource(1))
	for i := range n {
		f(-r.Int63n(45<<20) >> (i % 8))
	}
}

// logs are 1, MaxTop, all powers of two and their neighbours.
func logs() []int64 {
	out := []int64{1, 3, 5, 6, 7, 9, 10, 100, 1000, top - 2, top - 1, top}
	for bits := 1; bits <= 61; bits++ {
		out = append(out, int64(1)<<bits-1, int64(1)<<bits, int64(1)<<bits+1)
	}
	return out
}

// eachLog calls f with all named numbers at all bits, and with so many random ones: the same ones each time.
func eachLog(n int, f func(x int64, bits int)) {
	for _, x := range logs() {
		for bits := range 63 {
			f(x, bits)
		}
	}
	r := rand.New(rand.NewSource(2))
	for range n {
		f(1+r.Int63n(top)>>r.Intn(62), r.Intn(63))
	}
}

// wantExp asks for just that answer.
func wantExp(t testing.TB, x, want int64) {
	t.Helper()
	if got, err := grow.Exp(x); got != want || err != nil {
		t.Errorf("Exp(%d): %d, %v; want %d", x, got, err, want)
	}
}

// wantLog asks for just that answer.
func wantLog(t testing.TB, x int64, bits int, want int64) {
	t.Helper()
	if got, err := grow.Log(x, bits); got != want || err != nil {
		t.Errorf("Log(%d, %d): %d, %v; want %d", x, bits, got, err, want)
	}
}

// wantDecay asks for just that answer.
func wantDecay(t testing.TB, a, x, want int64) {
	t.Helper()
	if got, err := grow.Decay(a, x); got != want || err != nil {
		t.Errorf("Decay(%d, %d): %d, %v; want %d", a, x, got, err, want)
	}
}

// wantWrong asks for ErrArg, and for nothing beside it.
func wantWrong(t testing.TB, what string, got int64, err error) {
	t.Helper()
	var number api.Errno
	if !errors.As(err, &number) || number != 1 {
		t.Errorf("%s: %v; want error 1", what, err)
	}
	if got != 0 {
		t.Errorf("%s: %d beside an error", what, got)
	}
}
