package model_test

import (
	"math/big"
	"math/rand"
	"testing"

	"radome/mat"
	"radome/model"
)

// The document's example: a second of a still one.
func TestMO2Example(t *testing.T) {
	got, over, err := model.Step(model.Model{Kind: model.Still, Noise: 1}, second)
	row, rowErr := got.Row(0)
	want := [6]int64{second, second}
	if over || err != nil || rowErr != nil || [6]int64(row) != want {
		t.Errorf("%v, %v, %v; want %v", row, over, err, want)
	}
}

func TestMO2StepOfStill(t *testing.T) {
	for _, dt := range dts() {
		const one = 1 << 20
		wantStep(t, model.Model{Kind: model.Still, Noise: 1}, dt, ofRows([6][6]int64{
			{one, dt, 0, 0, 0, 0}, {0, one, 0, 0, 0, 0}, {},
			{0, 0, 0, one, dt, 0}, {0, 0, 0, 0, one, 0}, {},
		}))
	}
}

func TestMO2StepOfPushed(t *testing.T) {
	for _, c := range []struct{ dt, half int64 }{
		{1, 0}, {2, 0}, {1023, 0},
		{second / 2, second / 8}, {second, second / 2}, {second - 1, second/2 - 1}, {second + 1, second/2 + 1},
		{3 * second, 9 * second / 2}, {10 * second, 50 * second},
		{greatestTime - 1, 1<<31 - 64}, {greatestTime, 1 << 31},
	} {
		wantPushed(t, c.dt, c.half)
	}
}

func wantPushed(t *testing.T, dt, half int64) {
	t.Helper()
	const one = 1 << 20
	wantStep(t, model.Model{Kind: model.Pushed, Noise: 1}, dt, ofRows([6][6]int64{
		{one, dt, half, 0, 0, 0}, {0, one, dt, 0, 0, 0}, {0, 0, one, 0, 0, 0},
		{0, 0, 0, one, dt, half}, {0, 0, 0, 0, one, dt}, {0, 0, 0, 0, 0, one},
	}))
}

// dt times dt is rounded first, its half then: halves to the even one. The square itself never lies on a half, as it has an even number of noughts at its end.
func TestMO2PushedByAHalfIsEven(t *testing.T) {
	for _, c := range []struct{ dt, square, half int64 }{
		{1024, 1, 0}, {1774, 3, 2}, {2290, 5, 2}, {2709, 7, 4}, {3072, 9, 4}, {3396, 11, 6},
		{724, 0, 0}, {725, 1, 0}, // squares of 524,176 and 525,625: below and above half a last bit
		{1254, 1, 0}, {1255, 2, 1}, {1619, 2, 1}, {1620, 3, 2},
		{32*second + 1, 1<<30 + 64, 1<<29 + 32},
		{32*second + 16384, 1<<30 + 1<<20 + 256, 1<<29 + 1<<19 + 128},
		{32*second + 1024*3 + 512, 1<<30 + 229388, 1<<29 + 114694},
		{30000*1024 + 1024, 30001 * 30001, 450030000}, {30002*1024 + 1024, 30003 * 30003, 450090004},
	} {
		if got := times(c.dt, c.dt); got != c.square {
			t.Errorf("the square of %d is %d; want %d", c.dt, got, c.square)
		}
		wantPushed(t, c.dt, c.half)
	}
}

func TestMO2StepStepByStep(t *testing.T) {
	for _, m := range models() {
		for _, dt := range dts() {
			wantStep(t, m, dt, steppedStep(m, dt))
		}
	}
	r := rand.New(rand.NewSource(1))
	seen := map[int]int{}
	for range 50000 {
		m, dt := randomModel(r), randomTime(r)
		wantStep(t, m, dt, steppedStep(m, dt))
		seen[m.Kind]++
	}
	for _, kind := range kinds {
		if seen[kind] < 10000 {
			t.Errorf("kind %d: just %d", kind, seen[kind])
		}
	}
}

// A step hangs on the kind, the Rate and the time, not on the Noise.
func TestMO2TheNoiseIsNotLookedAt(t *testing.T) {
	r := rand.New(rand.NewSource(2))
	for range 2000 {
		m, dt := randomModel(r), randomTime(r)
		want := steppedStep(m, dt)
		for _, m.Noise = range []int64{1, 2, second, greatestNoise - 1, greatestNoise} {
			wantStep(t, m, dt, want)
		}
	}
}

// Two times one behind the other are one time, of a still one just so.
func TestMO2StillForTwoTimes(t *testing.T) {
	r := rand.New(rand.NewSource(3))
	m := model.Model{Kind: model.Still, Noise: 1}
	for range 2000 {
		one := 1 + r.Int63n(greatestTime-1)
		other := 1 + r.Int63n(greatestTime-one)
		first, _, _ := model.Step(m, one)
		then, _, _ := model.Step(m, other)
		both, _, err := mat.Mul(then, first)
		if err != nil {
			t.Fatal(err)
		}
		wantStep(t, m, one+other, both)
	}
}

// What is greatest: half of 64 times 64 of a pushed one; a turn's numbers are none above 64 seconds. Nothing is too great.
func TestMO2WhatIsGreatest(t *testing.T) {
	for _, m := range models() {
		bound := greatestTime
		if m.Kind == model.Pushed {
			bound = 1 << 31
		}
		for _, dt := range dts() {
			got, over, err := model.Step(m, dt)
			if size := greatestOf(got); over || err != nil || size > bound {
				t.Errorf("Step(%v, %d): %d, %v, %v; at most %d", m, dt, size, over, err, bound)
			}
		}
	}
	got, over, err := model.Step(model.Model{Kind: model.Pushed, Noise: greatestNoise}, greatestTime)
	if greatestOf(got) != 1<<31 || got.A[2] != 1<<31 || got.A[23] != 1<<31 || over || err != nil {
		t.Errorf("%v, %v, %v", got, over, err)
	}
}

// greatestOf is the size of the greatest number of a matrix.
func greatestOf(m mat.Mat) int64 {
	size := new(big.Int)
	for _, n := range m.A {
		if other := new(big.Int).Abs(big.NewInt(n)); other.Cmp(size) > 0 {
			size = other
		}
	}
	return size.Int64()
}
