package model_test

import (
	"errors"
	"math"
	"math/big"
	"math/rand"
	"testing"

	"radome/api"
	"radome/mat"
	"radome/model"
	"radome/trig"
	"radome/turn"
)

// The reckoner that the tests hold all answers against goes the chapter's steps by math/big, each rounded by its definition. Sines and cosines alone are layer 5's, as the chapter says.

const (
	second = int64(1) << 20 // and one, whatever it is of
	most   = math.MaxInt64
	least  = math.MinInt64

	greatestNoise = int64(1) << 30
	leastRate     = int64(1) << 20
	greatestRate  = int64(1) << 28
	greatestTime  = int64(1) << 26
)

// kinds are all that there are.
var kinds = []int{model.Still, model.Pushed, model.Left, model.Right}

// turns tells whether a kind has a Rate.
func turns(kind int) bool { return kind == model.Left || kind == model.Right }

// timesOf is a product, exactly.
func timesOf(a, b int64) *big.Int { return new(big.Int).Mul(big.NewInt(a), big.NewInt(b)) }

// power is 2 to the power of bits.
func power(bits uint) *big.Int { return new(big.Int).Lsh(big.NewInt(1), bits) }

// rounded is the whole number nearest to n by the number by (above 0), of two such the even one.
func rounded(n, by *big.Int) int64 {
	down, rest := new(big.Int).DivMod(n, by, new(big.Int))
	switch rest.Lsh(rest, 1).Cmp(by) {
	case 1:
		return down.Int64() + 1
	case 0:
		return down.Int64() + int64(down.Bit(0))
	}
	return down.Int64()
}

// onAHalf tells whether n by the number by lies halfway between two whole numbers.
func onAHalf(n, by *big.Int) bool {
	twice, rest := new(big.Int).DivMod(new(big.Int).Lsh(n, 1), by, new(big.Int))
	return rest.Sign() == 0 && twice.Bit(0) == 1
}

// times is a product with Frac bits behind the point.
func times(a, b int64) int64 { return rounded(timesOf(a, b), power(20)) }

// by is a quotient with Frac bits behind the point.
func by(a, b int64) int64 { return rounded(timesOf(a, 1<<20), big.NewInt(b)) }

// halfOf is the chapter's h.
func halfOf(dt int64) int64 { return times(times(dt, dt), 1<<19) }

// turnOf is the chapter's t: how far it is turned, without whole turns.
func turnOf(rate, dt int64) turn.Turn {
	parts := new(big.Int).Div(timesOf(rate, dt), power(20))
	return turn.Turn(parts.Mod(parts, power(32)).Uint64())
}

// radiansOf is the chapter's w.
func radiansOf(rate int64) int64 { return rounded(timesOf(rate, 3622009729038561421), power(71)) }

// sineAndCosine are the chapter's s and c.
func sineAndCosine(rate, dt int64) (int64, int64) {
	sine, cosine := trig.Both(turnOf(rate, dt))
	return rounded(big.NewInt(sine), power(10)), rounded(big.NewInt(cosine), power(10))
}

// steppedStep is what MO2 says.
func steppedStep(m model.Model, dt int64) mat.Mat {
	out := mat.Mat{Rows: 6, Cols: 6}
	switch m.Kind {
	case 0:
		for _, first := range []int{0, 3} {
			set(&out, first, first, 1<<20)
			set(&out, first, first+1, dt)
			set(&out, first+1, first+1, 1<<20)
		}
	case 1:
		for _, first := range []int{0, 3} {
			for i := range 3 {
				set(&out, first+i, first+i, 1<<20)
			}
			set(&out, first, first+1, dt)
			set(&out, first+1, first+2, dt)
			set(&out, first, first+2, halfOf(dt))
		}
	default:
		k := int64(2*m.Kind - 5)
		s, c := sineAndCosine(m.Rate, dt)
		w := radiansOf(m.Rate)
		p, q := by(s, w), by(1<<20-c, w)
		setRow(&out, 0, 1<<20, p, 0, 0, k*q, 0)
		setRow(&out, 1, 0, c, 0, 0, k*s, 0)
		setRow(&out, 3, 0, -k*q, 0, 1<<20, p, 0)
		setRow(&out, 4, 0, -k*s, 0, 0, c, 0)
	}
	return out
}

// steppedNoise is what MO3 says.
func steppedNoise(m model.Model, dt int64) mat.Mat {
	out := mat.Mat{Rows: 6, Cols: 6}
	g := []int64{halfOf(dt), dt, 0}
	if m.Kind == 1 {
		g[2] = 1 << 20
	}
	for i := range 3 {
		for j := range 3 {
			n := times(times(g[i], g[j]), m.Noise)
			if i == j {
				n += 16
			}
			set(&out, i, j, n)
			set(&out, i+3, j+3, n)
		}
	}
	return out
}

func set(m *mat.Mat, i, j int, n int64) { m.A[6*i+j] = n }

func setRow(m *mat.Mat, i int, numbers ...int64) { copy(m.A[6*i:6*i+6], numbers) }

// ofRows is a matrix of six rows.
func ofRows(rows [6][6]int64) mat.Mat {
	out := mat.Mat{Rows: 6, Cols: 6}
	for i, row := range rows {
		setRow(&out, i, row[:]...)
	}
	return out
}

// wantStep asks for just that matrix, nothing of it too great, without an error.
func wantStep(t testing.TB, m model.Model, dt int64, want mat.Mat) {
	t.Helper()
	got, over, err := model.Step(m, dt)
	if got != want || over || err != nil {
		t.Errorf("Step(%v, %d): %v, %v, %v; want %v", m, dt, got, over, err, want)
	}
}

// wantNoise asks for just that matrix, nothing of it too great, without an error.
func wantNoise(t testing.TB, m model.Model, dt int64, want mat.Mat) {
	t.Helper()
	got, over, err := model.Noise(m, dt)
	if got != want || over || err != nil {
		t.Errorf("Noise(%v, %d): %v, %v, %v; want %v", m, dt, got, over, err, want)
	}
}

// wantArg asks for the error of a wrong argument.
func wantArg(t testing.TB, what string, err error) {
	t.Helper()
	var number api.Errno
	if !errors.As(err, &number) || number != 1 {
		t.Errorf("%s: error %v; want 1", what, err)
	}
}

// rates are those of a kind at the bounds and next to them, and some between.
func rates(kind int) []int64 {
	if !turns(kind) {
		return []int64{0}
	}
	return []int64{leastRate, leastRate + 1, 1<<24 - 1, 1 << 24, 35791394, 1 << 27, greatestRate - 1, greatestRate}
}

// models are those of all kinds at the bounds and next to them, and some between.
func models() []model.Model {
	var out []model.Model
	for _, kind := range kinds {
		for _, rate := range rates(kind) {
			for _, noise := range []int64{1, 2, 1<<19 + 1, 1 << 20, 5 << 20, greatestNoise - 1, greatestNoise} {
				out = append(out, model.Model{Kind: kind, Rate: rate, Noise: noise})
			}
		}
	}
	return out
}

// dts are times at the bounds and next to them, and some between; by the greatest Rate a second is a sixteenth of a turn.
func dts() []int64 {
	out := []int64{1, 2, 1023, 1024, 1025, 1774, 2290, 2709, greatestTime - 1, greatestTime}
	for _, seconds := range []int64{1, 4, 8, 12, 16, 20, 63} {
		out = append(out, seconds*second-1, seconds*second, seconds*second+1)
	}
	return out
}

// randomModel is one that may be, of any size.
func randomModel(r *rand.Rand) model.Model {
	m := model.Model{Kind: kinds[r.Intn(len(kinds))], Noise: 1 + r.Int63n(greatestNoise)>>r.Intn(30)}
	if turns(m.Kind) {
		m.Rate = max(leastRate, 1+r.Int63n(greatestRate)>>r.Intn(9))
	}
	return m
}

// randomTime is one that may be, of any size.
func randomTime(r *rand.Rand) int64 { return 1 + r.Int63n(greatestTime)>>r.Intn(26) }
