package model_test

import (
	"math/rand"
	"testing"

	"radome/mat"
	"radome/model"
)

// answers is what all calls answer.
type answers struct {
	step, noise mat.Mat
	over        [2]bool
	name        string
	errs        [3]error
}

func ask(m model.Model, dt int64) answers {
	var out answers
	out.errs[0] = model.Check(m)
	out.step, out.over[0], out.errs[1] = model.Step(m, dt)
	out.noise, out.over[1], out.errs[2] = model.Noise(m, dt)
	out.name = model.Name(m.Kind)
	return out
}

// anything is a model and a time that may be, or that may not.
func anything(r *rand.Rand) (model.Model, int64) {
	m, dt := randomModel(r), randomTime(r)
	switch r.Intn(8) {
	case 0:
		m.Kind = wrongKinds[r.Intn(len(wrongKinds))]
	case 1:
		rates := wrongRates(m.Kind)
		m.Rate = rates[r.Intn(len(rates))]
	case 2:
		m.Noise = wrongNoises[r.Intn(len(wrongNoises))]
	case 3:
		dt = wrongTimes[r.Intn(len(wrongTimes))]
	case 4:
		m, dt = model.Model{Kind: int(r.Uint64()), Rate: int64(r.Uint64()), Noise: int64(r.Uint64())}, int64(r.Uint64())
	}
	return m, dt
}

// P9: what is handed in is as it was after each call, and the same is answered again, whatever was asked for in between.
func TestP9SameAnswersAndNothingChanged(t *testing.T) {
	var first []answers
	for round := range 2 {
		r := rand.New(rand.NewSource(14))
		for i := range 5000 {
			m, dt := anything(r)
			kept, keptTime := m, dt
			got := ask(m, dt)
			if m != kept || dt != keptTime {
				t.Fatalf("%v, %d: now %v, %d", kept, keptTime, m, dt)
			}
			if round == 0 {
				first = append(first, got)
			} else if got != first[i] {
				t.Fatalf("%v, %d: %v, then %v", m, dt, first[i], got)
			}
		}
	}
}

// Two matrices that are answered are their own.
func TestP9AMatrixIsItsOwn(t *testing.T) {
	for _, m := range models() {
		for _, call := range []func(model.Model, int64) (mat.Mat, bool, error){model.Step, model.Noise} {
			one, _, _ := call(m, 3*second)
			kept := one
			other, _, _ := call(m, 3*second)
			other.Rows, other.A = 1, [36]int64{1, 2, 3}
			if again, _, err := call(m, 3*second); one != kept || again != kept || err != nil {
				t.Errorf("%v: %v, then %v and %v, %v", m, kept, one, again, err)
			}
		}
	}
}

// An answer may be handed on to layer 8 as it is.
func TestP9AnswersMayBe(t *testing.T) {
	for _, m := range models() {
		for _, dt := range dts() {
			all := ask(m, dt)
			for _, got := range []mat.Mat{all.step, all.noise} {
				if mat.Check(got) != nil || got.Rows != 6 || got.Cols != 6 {
					t.Errorf("%v, %d: %v may not be", m, dt, got)
				}
			}
		}
	}
}
