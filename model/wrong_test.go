package model_test

import (
	"fmt"
	"testing"

	"radome/api"
	"radome/mat"
	"radome/model"
)

// wrongNoises are those of no model.
var wrongNoises = []int64{
	0, -1, -2, -second, -greatestNoise, -greatestNoise - 1, greatestNoise + 1, greatestNoise + 2, 2 * greatestNoise,
	1 << 32, 1<<32 + 1, -1 << 32, 1 << 62, api.MaxTop, -api.MaxTop, most, most - 1, least, least + 1,
}

// wrongRates are those of no model of a kind.
func wrongRates(kind int) []int64 {
	out := []int64{
		1, -1, 2, leastRate - 1, -leastRate, -leastRate - 1, greatestRate + 1, greatestRate + 2, -greatestRate, -greatestRate - 1,
		1 << 32, 1<<32 + leastRate, leastRate - 1<<32, 1 << 62, api.MaxTop, -api.MaxTop, most, most - 1, least, least + 1,
	}
	if turns(kind) {
		return append(out, 0)
	}
	return append(out, leastRate, leastRate+1, greatestRate-1, greatestRate)
}

// wrongModels are those of which a field, or all of them, can't be.
func wrongModels() []model.Model {
	out := []model.Model{{}}
	for _, kind := range wrongKinds {
		for _, rate := range []int64{0, leastRate, greatestRate, greatestRate + 1, least} {
			for _, noise := range []int64{1, second, greatestNoise, 0, most} {
				out = append(out, model.Model{Kind: kind, Rate: rate, Noise: noise})
			}
		}
	}
	for _, kind := range kinds {
		for _, rate := range wrongRates(kind) {
			for _, noise := range append([]int64{1, second, greatestNoise}, wrongNoises...) {
				out = append(out, model.Model{Kind: kind, Rate: rate, Noise: noise})
			}
		}
		for _, rate := range rates(kind) {
			for _, noise := range wrongNoises {
				out = append(out, model.Model{Kind: kind, Rate: rate, Noise: noise})
			}
		}
	}
	return out
}

// wrongTimes are none.
var wrongTimes = []int64{
	0, -1, -2, -second, -greatestTime, -greatestTime - 1, greatestTime + 1, greatestTime + 2, 2 * greatestTime,
	1 << 32, 1<<32 + second, second - 1<<32, 1 << 62, -1 << 62, api.MaxTop, -api.MaxTop, most, most - 1, least, least + 1,
}

func TestMO1CheckOfWhatMayNotBe(t *testing.T) {
	for _, m := range wrongModels() {
		wantArg(t, fmt.Sprintf("Check(%v)", m), model.Check(m))
	}
}

// wantWrong asks for the error of a wrong argument of both calls, with nothing beside it.
func wantWrong(t *testing.T, m model.Model, dt int64) {
	t.Helper()
	step, over, err := model.Step(m, dt)
	wantArg(t, fmt.Sprintf("Step(%v, %d)", m, dt), err)
	if step != (mat.Mat{}) || over {
		t.Errorf("Step(%v, %d): %v, %v beside an error", m, dt, step, over)
	}
	noise, over, err := model.Noise(m, dt)
	wantArg(t, fmt.Sprintf("Noise(%v, %d)", m, dt), err)
	if noise != (mat.Mat{}) || over {
		t.Errorf("Noise(%v, %d): %v, %v beside an error", m, dt, noise, over)
	}
}

func TestMO2MO3OfWrongModels(t *testing.T) {
	for _, m := range wrongModels() {
		for _, dt := range append([]int64{1, second, greatestTime}, wrongTimes...) {
			wantWrong(t, m, dt)
		}
	}
}

func TestMO2MO3OfWrongTimes(t *testing.T) {
	for _, m := range models() {
		for _, dt := range wrongTimes {
			wantWrong(t, m, dt)
		}
	}
}
