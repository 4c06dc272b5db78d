package model_test

import (
	"math/rand"
	"testing"

	"radome/mat"
	"radome/model"
)

// wantEven asks for a noise that is the same turned, and the same made even.
func wantEven(t *testing.T, m model.Model, dt int64) {
	t.Helper()
	got, _, err := model.Noise(m, dt)
	turned, turnErr := mat.Turn(got)
	even, _, evenErr := mat.Even(got)
	if err != nil || turnErr != nil || evenErr != nil || turned != got || even != got {
		t.Errorf("Noise(%v, %d): %v, %v: not even", m, dt, got, err)
	}
}

func TestMO4ANoiseIsEven(t *testing.T) {
	for _, m := range models() {
		for _, dt := range dts() {
			wantEven(t, m, dt)
		}
	}
	r := rand.New(rand.NewSource(10))
	for range 20000 {
		wantEven(t, randomModel(r), randomTime(r))
	}
}

// wantUndone asks for what is left of the velocity, if a turn to the one side goes behind the same one to the other: each by itself one, but for two last bits, and nothing of the other, just so. (Sine and cosine are each off by half a last bit, so both squares together by less than one and a half, and their rounding is a half.)
func wantUndone(t *testing.T, rate, dt int64) {
	t.Helper()
	left, _, err := model.Step(model.Model{Kind: model.Left, Rate: rate, Noise: 1}, dt)
	right, _, err2 := model.Step(model.Model{Kind: model.Right, Rate: rate, Noise: 1}, dt)
	for _, pair := range [][2]mat.Mat{{left, right}, {right, left}} {
		both, over, err3 := mat.Mul(pair[0], pair[1])
		if err != nil || err2 != nil || err3 != nil || over {
			t.Fatalf("Rate %d, time %d: %v, %v, %v, %v", rate, dt, err, err2, err3, over)
		}
		xx, xy, yx, yy := both.A[7], both.A[10], both.A[25], both.A[28]
		if off := xx - 1<<20; off < -2 || off > 2 || yy != xx || xy != 0 || yx != 0 {
			t.Errorf("Rate %d, time %d: %d, %d and %d, %d of the velocity", rate, dt, xx, xy, yx, yy)
		}
	}
}

func TestMO4ATurnIsUndone(t *testing.T) {
	for _, rate := range rates(model.Left) {
		for _, dt := range dts() {
			wantUndone(t, rate, dt)
		}
	}
	for _, c := range halves {
		wantUndone(t, c.rate, c.dt)
	}
	r := rand.New(rand.NewSource(11))
	for range 50000 {
		wantUndone(t, leastRate+r.Int63n(greatestRate-leastRate+1), randomTime(r))
	}
}

// A velocity that was turned to the right and back is what it was, but for little.
func TestMO4AVelocityIsUndone(t *testing.T) {
	r := rand.New(rand.NewSource(12))
	for range 5000 {
		rate, dt := leastRate+r.Int63n(greatestRate-leastRate+1), randomTime(r)
		v := make([]int64, 6)
		for i := range v {
			v[i] = r.Int63n(1<<31) - 1<<30 // up to 1,024 metres in a second
		}
		right, _, _ := model.Step(model.Model{Kind: model.Right, Rate: rate, Noise: 1}, dt)
		left, _, _ := model.Step(model.Model{Kind: model.Left, Rate: rate, Noise: 1}, dt)
		there, _, err := mat.Apply(right, v)
		back, _, err2 := mat.Apply(left, there)
		for _, i := range []int{1, 4} {
			// Two last bits of 2^20 are 2^11 of 2^30; the rest is rounding.
			if off := back[i] - v[i]; err != nil || err2 != nil || off < -1<<11-4 || off > 1<<11+4 {
				t.Errorf("Rate %d, time %d: %v, then %v, %v, %v", rate, dt, v, back, err, err2)
			}
		}
	}
}

// What turns to the left is what turns to the right, with x and y in each other's place.
func TestMO4LeftIsRightInAMirror(t *testing.T) {
	r := rand.New(rand.NewSource(13))
	for range 5000 {
		rate, dt := leastRate+r.Int63n(greatestRate-leastRate+1), randomTime(r)
		right, _, _ := model.Step(model.Model{Kind: model.Right, Rate: rate, Noise: 1}, dt)
		want := mat.Mat{Rows: 6, Cols: 6}
		for i := range 6 {
			for j := range 6 {
				set(&want, (i+3)%6, (j+3)%6, right.A[6*i+j])
			}
		}
		wantStep(t, model.Model{Kind: model.Left, Rate: rate, Noise: 1}, dt, want)
	}
}
