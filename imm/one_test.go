package imm_test

import (
	"math/rand"
	"slices"
	"testing"

	"radome/imm"
	"radome/mix"
	"radome/predict"
)

// At 0 and at 10 m, by halves: at 5 m, 25 square metres less sure.
func TestIM4One(t *testing.T) {
	m := immAt(ones(), []int64{half, half}, vector{}, vector{0: 10 * unit})
	wantOne(t, m, stateOf(vector{0: 5 * unit}, both(ones(), place{0, 0, 26 * unit})), false)
	m.Chances = []int64{3 * quarter, quarter}
	wantOne(t, m, stateOf(vector{0: 10 * unit / 4}, both(ones(), place{0, 0, unit + 75*unit/4})), false)
	m = immAt(ones(), []int64{quarter, quarter, half}, vector{1: 8 * unit}, vector{4: -8 * unit}, vector{1: 8 * unit, 4: -8 * unit})
	wantOne(t, m, stateOf(vector{1: 6 * unit, 4: -6 * unit}, both(ones(), place{1, 1, 13 * unit}, place{4, 4, 13 * unit}, place{1, 4, 4 * unit})), false)
}

// Of one state, and of a chance of 2^30, it is that state; of states that are all the same, too.
func TestIM4OneForSure(t *testing.T) {
	r := rand.New(rand.NewSource(11))
	for i := range 800 {
		many := 1 + i%4
		m := imm.Imm{}
		for range many {
			m.States = append(m.States, nearState(r))
		}
		for k, s := range m.States {
			m.Chances = alone(k, many)
			wantOne(t, m, s, false)
			same := imm.Imm{States: slices.Repeat([]predict.State{s}, many), Chances: randomChances(r, many)}
			wantOne(t, same, s, false)
		}
	}
}

// It is layer 15's Join, and tells whether a number was too great.
func TestIM4OfRandomImms(t *testing.T) {
	r := rand.New(rand.NewSource(12))
	count := map[bool]int{}
	for i := range 4000 {
		m := randomImm(r, 1+i%4)
		want, great, err := mix.Join(m.States, m.Chances)
		if err != nil {
			t.Fatal(err)
		}
		wantOne(t, m, want, great)
		count[great]++
	}
	if count[true] < 400 || count[false] < 400 {
		t.Errorf("so many too great: %v", count)
	}
	far := immAt(table{}, []int64{half, half}, vector{0: 1 << 41}, vector{0: -1 << 41})
	wantOne(t, far, stateOf(vector{}, both(table{}, place{0, 0, top})), true)
	far.States[0].X[0]--
	far.States[1].X[0]++
	wantOne(t, far, stateOf(vector{}, both(table{}, place{0, 0, 1<<62 - 1<<22})), false)
}

// From 1 to 4 states, and as many chances; of no conf.
func TestIM4WrongImms(t *testing.T) {
	for count := range 8 {
		for many := range 8 {
			m := imm.Imm{States: slices.Repeat([]predict.State{someState()}, count)}
			if many > 0 {
				m.Chances = alone(many-1, many)
			}
			if count == many && count >= 1 && count <= 4 {
				wantOne(t, m, someState(), false)
			} else {
				wantNoOne(t, m)
			}
		}
	}
	for many := 1; many <= 4; many++ {
		for _, m := range wrongImms(many) {
			if len(m.States) == many || len(m.States) != len(m.Chances) {
				wantNoOne(t, m)
			}
		}
	}
	wantNoOne(t, imm.Imm{})
	wantNoOne(t, imm.Imm{States: []predict.State{}, Chances: []int64{}})
}
