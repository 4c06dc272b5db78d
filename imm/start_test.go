package imm_test

import (
	"math/rand"
	"slices"
	"testing"

	"radome/imm"
	"radome/mat"
	"radome/predict"
)

// The chances of so many models that are started.
var started = [][]int64{{one}, {half, half}, {357913942, 357913941, 357913941}, {quarter, quarter, quarter, quarter}}

// wantStart asks for that state by each model, with even chances.
func wantStart(t *testing.T, c imm.Conf, s predict.State) {
	t.Helper()
	many := len(c.Models)
	got, err := imm.Start(c, s)
	wantImm(t, call("Start", c, s), got, false, err, imm.Imm{States: slices.Repeat([]predict.State{s}, many), Chances: started[many-1]}, false)
}

func TestIM1Start(t *testing.T) {
	r := rand.New(rand.NewSource(3))
	for many := 1; many <= 4; many++ {
		c := someConf(many)
		for _, s := range []predict.State{someState(), stateOf(vector{}, table{}), stateOf(allOf(top), onDiagonal(top, top, top, top, top, top)), stateOf(allOf(-top), table{}), stateOf(vector{top, -top}, both(table{}, place{1, 4, -top}))} {
			for _, floor := range floors {
				for _, rows := range [][][]int64{itself(many), sameRows(alone(many-1, many), many), someConf(many).Rows} {
					c.Floor, c.Rows = floor, rows
					wantStart(t, c, s)
				}
			}
		}
		for range 500 {
			wantStart(t, randomConf(r, many), randomState(r, 1+r.Intn(62), 1+r.Intn(62)))
		}
	}
}

// wrongStates are such as may not be, by their P's size, by one number that is not the same turned, by one below 0 on the diagonal, or by one beyond MaxTop's size.
func wrongStates() []predict.State {
	out := []predict.State{{}}
	for _, size := range [][2]int{{0, 0}, {1, 1}, {5, 5}, {5, 6}, {6, 5}, {4, 9}, {36, 1}, {7, 7}, {-6, -6}, {6, 0}, {1<<32 + 6, 6}, {6, most}, {least, 6}} {
		s := someState()
		s.P.Rows, s.P.Cols = size[0], size[1]
		out = append(out, s, predict.State{P: mat.Mat{Rows: size[0], Cols: size[1]}})
	}
	for i := range 6 {
		for _, n := range beyond {
			s := someState()
			s.X[i] = n
			out = append(out, s)
			for j := range 6 {
				s := someState()
				s.P.A[6*i+j], s.P.A[6*j+i] = n, n
				out = append(out, s)
			}
		}
		for _, n := range []int64{-1, -unit, 1 - top, -top} {
			s := someState()
			s.P.A[7*i] = n
			out = append(out, s, stateOf(vector{}, with(table{}, place{i, i, n})))
		}
		for j := range 6 {
			if i != j {
				s := someState()
				s.P.A[6*i+j] ^= 1
				out = append(out, s, stateOf(vector{}, with(table{}, place{i, j, 1})))
			}
		}
	}
	return out
}

func TestIM1StartOfAWrongState(t *testing.T) {
	for _, s := range wrongStates() {
		for many := 1; many <= 4; many++ {
			wantNoStart(t, someConf(many), s)
		}
		wantNoStart(t, imm.Conf{}, s)
	}
}

// wantSame asks whether two are the same, both ways.
func wantSame(t *testing.T, a, b imm.Imm, want bool) {
	t.Helper()
	if imm.Same(a, b) != want || imm.Same(b, a) != want {
		t.Errorf("Same(%v, %v) is not %v", a, b, want)
	}
}

// copied has the same states and chances in memory of its own.
func copied(m imm.Imm) imm.Imm {
	return imm.Imm{States: slices.Clone(m.States), Chances: slices.Clone(m.Chances)}
}

func TestIM1Same(t *testing.T) {
	for many := 1; many <= 4; many++ {
		m := someImm(many)
		wantSame(t, m, m, true)
		wantSame(t, m, copied(m), true)
		for k := range many {
			for i := range 6 {
				other := copied(m)
				other.States[k].X[i]++
				wantSame(t, m, other, false)
			}
			for i := range 36 {
				other := copied(m)
				other.States[k].P.A[i] -= 1 << (i + 20)
				wantSame(t, m, other, false)
			}
			for _, size := range [][2]int{{0, 0}, {6, 5}, {5, 6}, {6, 6 + 1<<32}} {
				other := copied(m)
				other.States[k].P.Rows, other.States[k].P.Cols = size[0], size[1]
				wantSame(t, m, other, false)
				wantSame(t, other, copied(other), true)
			}
			for _, by := range []int64{1, -1, 1 << 32, least} {
				other := copied(m)
				other.Chances[k] += by
				wantSame(t, m, other, false)
				wantSame(t, other, copied(other), true)
			}
		}
	}
}

// One more or one less of the states, of the chances, or of both; and another order.
func TestIM1SameOfOtherLists(t *testing.T) {
	for many := 1; many <= 4; many++ {
		m := someImm(many)
		for states := range 6 {
			for chances := range 6 {
				other := imm.Imm{States: slices.Repeat(m.States, 6)[:states], Chances: slices.Repeat(m.Chances, 6)[:chances]}
				wantSame(t, m, other, states == many && chances == many)
				wantSame(t, other, copied(other), true)
			}
		}
		if many > 1 {
			turned := copied(m)
			slices.Reverse(turned.States)
			wantSame(t, m, turned, false)
			slices.Reverse(turned.Chances)
			wantSame(t, m, turned, false)
			turned = copied(m)
			slices.Reverse(turned.Chances)
			wantSame(t, m, turned, false)
		}
	}
}

// Nil and the empty list are the same; what may not be is held against another one all the same.
func TestIM1SameOfWhatMayNotBe(t *testing.T) {
	none := []imm.Imm{{}, {States: []predict.State{}}, {Chances: []int64{}}, {States: make([]predict.State, 0, 4), Chances: make([]int64, 0, 4)}}
	for _, a := range none {
		for _, b := range none {
			wantSame(t, a, b, true)
		}
		wantSame(t, a, someImm(1), false)
		wantSame(t, a, imm.Imm{States: someImm(1).States}, false)
		wantSame(t, a, imm.Imm{Chances: alone(0, 1)}, false)
		wantSame(t, a, imm.Imm{States: make([]predict.State, 1)}, false)
		wantSame(t, a, imm.Imm{Chances: make([]int64, 1)}, false)
	}
	for i, s := range wrongStates() {
		a := imm.Imm{States: []predict.State{someState(), s}, Chances: wrongChances()[i%12]}
		wantSame(t, a, copied(a), true)
		wantSame(t, a, someImm(2), false)
		wantSame(t, a, imm.Imm{States: []predict.State{s, someState()}, Chances: a.Chances}, false)
	}
	wantSame(t, imm.Imm{States: make([]predict.State, 9), Chances: make([]int64, 9)}, imm.Imm{States: make([]predict.State, 9), Chances: make([]int64, 9)}, true)
}
