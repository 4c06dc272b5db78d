package model_test

import (
	"math/big"
	"math/rand"
	"testing"

	"radome/mat"
	"radome/model"
)

// doubled is the matrix that has three by three numbers for x, and the same for y.
func doubled(b [3][3]int64) mat.Mat {
	out := mat.Mat{Rows: 6, Cols: 6}
	for i, row := range b {
		for j, n := range row {
			set(&out, i, j, n)
			set(&out, i+3, j+3, n)
		}
	}
	return out
}

// wantNoises asks for these of a pushed one; of all others what is by the acceleration is left out.
func wantNoises(t *testing.T, noise, dt int64, pushed [3][3]int64) {
	t.Helper()
	wantNoise(t, model.Model{Kind: model.Pushed, Noise: noise}, dt, doubled(pushed))
	for i := range 3 {
		pushed[i][2], pushed[2][i] = 0, 0
	}
	pushed[2][2] = 16
	others := doubled(pushed)
	wantNoise(t, model.Model{Kind: model.Still, Noise: noise}, dt, others)
	for _, rate := range rates(model.Left) {
		wantNoise(t, model.Model{Kind: model.Left, Rate: rate, Noise: noise}, dt, others)
		wantNoise(t, model.Model{Kind: model.Right, Rate: rate, Noise: noise}, dt, others)
	}
}

func TestMO3NoiseOfASecond(t *testing.T) {
	const one = 1 << 20
	wantNoises(t, one, second, [3][3]int64{
		{one/4 + 16, one / 2, one / 2},
		{one / 2, one + 16, one},
		{one / 2, one, one + 16},
	})
	wantNoises(t, 3*one, 4*second, [3][3]int64{ // h is 8
		{192*one + 16, 96 * one, 24 * one},
		{96 * one, 48*one + 16, 12 * one},
		{24 * one, 12 * one, 3*one + 16},
	})
}

// The least and the greatest Noise, and the least and the greatest time; the last is what is greatest, and nothing is too great.
func TestMO3NoiseAtTheBounds(t *testing.T) {
	wantNoises(t, 1, 1, [3][3]int64{{16, 0, 0}, {0, 16, 0}, {0, 0, 17}})
	wantNoises(t, greatestNoise, 1, [3][3]int64{{16, 0, 0}, {0, 16, 1024}, {0, 1024, 1<<30 + 16}})
	wantNoises(t, 1, greatestTime, [3][3]int64{
		{1<<22 + 16, 1 << 17, 1 << 11}, {1 << 17, 1<<12 + 16, 1 << 6}, {1 << 11, 1 << 6, 17},
	})
	wantNoises(t, greatestNoise, greatestTime, [3][3]int64{
		{1<<52 + 16, 1 << 47, 1 << 41}, {1 << 47, 1<<42 + 16, 1 << 36}, {1 << 41, 1 << 36, 1<<30 + 16},
	})
}

// However short the time and however little the Noise, 16 stand on the whole diagonal.
func TestMO3NoiseIsNeverNothing(t *testing.T) {
	for _, m := range models() {
		for _, dt := range dts() {
			got, _, err := model.Noise(m, dt)
			for i := range 6 {
				if n, _ := got.At(i, i); err != nil || n < 16 {
					t.Errorf("Noise(%v, %d): %d at %d, %v", m, dt, n, i, err)
				}
			}
		}
	}
}

// noiseHalves are products that lie on just a half before they are rounded: at which place, that of both numbers of g or that with the Noise, and what comes of it.
var noiseHalves = []struct {
	kind      int
	noise, dt int64
	i, j      int
	withNoise bool
	want      int64
}{
	{1, 1102734, 6814720, 0, 1, false, 151350921},
	{1, 350867200, 59243520, 0, 1, false, 31639936204372},
	{1, 55574528, 5768192, 0, 1, false, 4625568958},
	{1, 20586496, 12059648, 0, 1, false, 15658731919},
	{1, 524288, 1472096, 0, 0, true, 509176},
	{1, 40960, 917504, 0, 0, true, 6018},
	{0, 1572864, 2529280, 0, 0, true, 13311276},
	{1, 5570560, 1382576, 0, 0, true, 4209174},
	{0, 1572864, 2529280, 0, 1, true, 11037028},
	{0, 6815744, 30816, 0, 1, true, 84},
	{1, 524288, 1472096, 0, 1, true, 725352},
	{0, 1, 3145728, 0, 1, true, 14},
	{1, 13369344, 8901832, 0, 2, true, 481769230},
	{1, 15302656, 110976, 0, 2, true, 85694},
	{1, 409600, 99328, 0, 2, true, 1838},
	{1, 3932160, 50364, 0, 2, true, 4538},
	{1, 520, 15466496, 1, 1, true, 113148},
	{1, 960512, 2834432, 1, 1, true, 7018366},
	{0, 4587520, 2172, 1, 1, true, 34},
	{0, 1572864, 1184, 1, 1, true, 18},
	{1, 1, 29884416, 1, 2, true, 28},
	{1, 507904, 9893088, 1, 2, true, 4791964},
	{1, 1572864, 1, 1, 2, true, 2},
	{1, 54915072, 75904, 1, 2, true, 3975176},
}

func TestMO3NoiseOfAHalfIsEven(t *testing.T) {
	for _, c := range noiseHalves {
		g := [3]int64{halfOf(c.dt), c.dt, 1 << 20}
		exact := timesOf(g[c.i], g[c.j])
		if c.withNoise {
			exact = timesOf(rounded(exact, power(20)), c.noise)
		}
		if !onAHalf(exact, power(20)) || c.withNoise && c.want%2 != 0 {
			t.Errorf("%v: no half, or an odd answer", c)
		}
		m := model.Model{Kind: c.kind, Noise: c.noise}
		got, over, err := model.Noise(m, c.dt)
		for _, place := range []int{6*c.i + c.j, 6*c.j + c.i, 6*(c.i+3) + c.j + 3, 6*(c.j+3) + c.i + 3} {
			if n := got.A[place]; n != c.want || over || err != nil {
				t.Errorf("Noise(%v, %d): %d at %d, %v, %v; want %d", m, c.dt, n, place, over, err, c.want)
			}
		}
	}
}

// The product of both numbers of g is rounded, and only that is by the Noise: now and then all at once would be another one.
func TestMO3NoiseIsRoundedTwice(t *testing.T) {
	r := rand.New(rand.NewSource(7))
	others := 0
	for range 5000 {
		m := model.Model{Kind: model.Pushed, Noise: 1<<20 + r.Int63n(greatestNoise-1<<20)}
		dt := randomTime(r)
		want := steppedNoise(m, dt)
		wantNoise(t, m, dt, want)
		atOnce := new(big.Int).Mul(timesOf(halfOf(dt), dt), big.NewInt(m.Noise))
		otherwise := timesOf(times(dt, m.Noise), dt)
		if rounded(atOnce, power(40)) != want.A[1] && rounded(otherwise, power(20)) != want.A[7] {
			others++
		}
	}
	if others < 1000 {
		t.Errorf("just %d would be seen", others)
	}
}

func TestMO3NoiseStepByStep(t *testing.T) {
	for _, m := range models() {
		for _, dt := range dts() {
			wantNoise(t, m, dt, steppedNoise(m, dt))
		}
	}
	r := rand.New(rand.NewSource(8))
	for range 50000 {
		m, dt := randomModel(r), randomTime(r)
		wantNoise(t, m, dt, steppedNoise(m, dt))
	}
}

// The Rate tells nothing of the noise, nor on which side it turns.
func TestMO3TheRateIsNotLookedAt(t *testing.T) {
	r := rand.New(rand.NewSource(9))
	for range 2000 {
		m, dt := randomModel(r), randomTime(r)
		want := steppedNoise(model.Model{Kind: model.Still, Noise: m.Noise}, dt)
		for _, m.Rate = range rates(model.Right) {
			for _, m.Kind = range []int{model.Left, model.Right} {
				wantNoise(t, m, dt, want)
			}
		}
	}
}
