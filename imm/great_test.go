package imm_test

import (
	"testing"

	"radome/imm"
	"radome/model"
	"radome/polar"
	"radome/predict"
)

// nothings are so many states at 0, each as unsure, with even chances.
func nothings(many int, p table) imm.Imm {
	m := imm.Imm{Chances: started[many-1]}
	for range many {
		m.States = append(m.States, stateOf(vector{}, p))
	}
	return m
}

// wantGreat asks that just these calls told that a number was too great.
func wantGreat(t *testing.T, what string, told, want which) {
	t.Helper()
	if told != want {
		t.Errorf("%s: by %v a number was too great, not by %v", what, told, want)
	}
}

// Mixing alone: each becomes itself, but they are so far from each other that this is told; nothing of it is left.
func TestIM2TooGreatByMixingAlone(t *testing.T) {
	for many := 2; many <= 4; many++ {
		for place := range many {
			for part := range 6 {
				m := nothings(many, ones())
				m.States[place].X[part] = 1 << 41
				c := stillConf(many, 0)
				c.Models[0] = model.Model{Kind: model.Still, Noise: 1}
				wantGreat(t, call("Ahead", many, place, part), checkAhead(t, c, m, 1), those(byJoin))
				m.States[place].X[part]--
				wantGreat(t, call("Ahead, just not", many, place, part), checkAhead(t, c, m, 1), which{})
			}
		}
	}
}

// Going on alone, of just one state, whichever it is: by X, or by how unsure it is.
func TestIM2TooGreatByGoingOnAlone(t *testing.T) {
	for many := 1; many <= 4; many++ {
		for place := range many {
			c := imm.Conf{Rows: itself(many)}
			for range many {
				c.Models = append(c.Models, model.Model{Kind: model.Still, Noise: 1})
			}
			for _, sign := range []int64{1, -1} {
				m := nothings(many, table{})
				for k := range many {
					m.States[k].X[3] = sign * top
					m.States[k].X[4] = -sign * unit
				}
				m.States[place].X[4] = sign
				wantGreat(t, call("Ahead, X", many, place), checkAhead(t, c, m, unit), those(byPredict))
				m.States[place].X[4] = 0
				wantGreat(t, call("Ahead, X just not", many, place), checkAhead(t, c, m, unit), which{})
			}
			m := nothings(many, table{})
			m.States[place] = stateOf(vector{}, onDiagonal(0, 0, 0, top-15))
			wantGreat(t, call("Ahead, P", many, place), checkAhead(t, c, m, 1), those(byPredict))
			m.States[place] = stateOf(vector{}, onDiagonal(0, 0, 0, top-16)) // 16 are added
			wantGreat(t, call("Ahead, P just not", many, place), checkAhead(t, c, m, 1), which{})
		}
	}
}

// What is told at one place by mixing, at another one by going on.
func TestIM2TooGreatByBoth(t *testing.T) {
	c := stillConf(3, 0)
	m := nothings(3, ones())
	m.States[0].X[1] = -1 << 41
	m.States[2].P.A[0] = top
	wantGreat(t, "Ahead", checkAhead(t, c, m, unit), those(byJoin, byPredict))
	m = imm.Imm{Chances: started[1], States: []predict.State{stateOf(allOf(top), onDiagonal(top, top, top, top, top, top)), stateOf(allOf(-top), onDiagonal(top, top, top, top, top, top))}}
	wantGreat(t, "Ahead of all that is as great as may be", checkAhead(t, someConf(2), m, longest), those(byJoin, byPredict))
}

// seenAt asks of so many states at 0, one of which another one stands for, which calls tell that a number was too great.
func seenAt(t *testing.T, many, place int, others table, s predict.State, p polar.Seen) which {
	t.Helper()
	m := nothings(many, others)
	for k := range m.States {
		m.States[k].X[0], m.States[k].X[3] = p.X, p.Y
	}
	m.States[place] = s
	return checkSeen(t, stillConf(many, 1000), m, p)
}

// How far it is alone: a state that is sure isn't moved, and so is nothing else too great.
func TestIM3TooGreatByHowFarAlone(t *testing.T) {
	sure := polar.Seen{XX: unit, YY: unit}
	for many := 1; many <= 4; many++ {
		for place := range many {
			for _, sign := range []int64{1, -1} {
				wantGreat(t, "x", seenAt(t, many, place, ones(), stateOf(vector{0: sign << 41}, table{}), sure), those(byLike))
				wantGreat(t, "x, just not", seenAt(t, many, place, ones(), stateOf(vector{0: sign * (1<<41 - 1)}, table{}), sure), which{})
				wantGreat(t, "y", seenAt(t, many, place, ones(), stateOf(vector{3: sign << 41}, table{}), sure), those(byLike))
				wantGreat(t, "y, just not", seenAt(t, many, place, ones(), stateOf(vector{3: sign * (1<<41 - 1)}, table{}), sure), which{})
				// That and the logarithm together: one below MaxTop, and one above.
				wide := polar.Seen{XX: unit, YY: 4 * unit}
				wantGreat(t, "together", seenAt(t, many, place, table{}, stateOf(vector{0: sign * (1<<41 - 1), 3: 3390457}, table{}), wide), those(byLike))
				wantGreat(t, "together, just not", seenAt(t, many, place, table{}, stateOf(vector{0: sign * (1<<41 - 1), 3: 3390456}, table{}), wide), which{})
			}
		}
	}
}

// V of just one state, and so how far it is, too.
func TestIM3TooGreatInTheGap(t *testing.T) {
	for many := 1; many <= 4; many++ {
		for place := range many {
			for _, sign := range []int64{1, -1} {
				p := polar.Seen{X: sign * top, Y: -sign * top, XX: unit, YY: unit}
				wantGreat(t, "x", seenAt(t, many, place, ones(), stateOf(vector{0: -sign, 3: -sign * top}, table{}), p), those(byGap, byLike, byUpdate))
				wantGreat(t, "y", seenAt(t, many, place, ones(), stateOf(vector{0: sign * top, 3: sign}, table{}), p), those(byGap, byLike, byUpdate))
				wantGreat(t, "neither", seenAt(t, many, place, ones(), stateOf(vector{0: sign * top, 3: -sign * top}, table{}), p), which{})
			}
		}
	}
}

// How unsure both are together, of just one state.
func TestIM3TooGreatInHowUnsureBothAre(t *testing.T) {
	p := polar.Seen{X: 8, Y: -8, XX: 1, YY: 1}
	for many := 1; many <= 4; many++ {
		for place := range many {
			wantGreat(t, "x", seenAt(t, many, place, ones(), stateOf(vector{}, onDiagonal(top, 0, 0, unit)), p), those(byGap, byUpdate))
			wantGreat(t, "x, just not", seenAt(t, many, place, ones(), stateOf(vector{}, onDiagonal(top-1, 0, 0, unit)), p), which{})
			wantGreat(t, "y", seenAt(t, many, place, ones(), stateOf(vector{}, onDiagonal(unit, 0, 0, top)), p), those(byGap, byUpdate))
			wantGreat(t, "y, just not", seenAt(t, many, place, ones(), stateOf(vector{}, onDiagonal(unit, 0, 0, top-1)), p), which{})
		}
	}
}

// What becomes of just one state alone: its velocity is as great as may be, and becomes one greater.
func TestIM3TooGreatInTheStateAlone(t *testing.T) {
	for many := 1; many <= 4; many++ {
		for place := range many {
			for _, part := range []int{1, 2, 4, 5} {
				for _, sign := range []int64{1, -1} {
					unsure := onDiagonal(unit, 9*unit, 9*unit, unit, 9*unit, 9*unit)
					s := stateOf(vector{}, both(unsure, oneAt(part, 0)))
					s.X[part] = sign * top
					p := polar.Seen{X: 2 * sign, XX: unit, YY: unit}
					wantGreat(t, call("Seen", part), seenAt(t, many, place, ones(), s, p), those(byUpdate))
					s.X[part] -= sign
					wantGreat(t, call("Seen, just not", part), seenAt(t, many, place, ones(), s, p), which{})
				}
			}
		}
	}
}

// oneAt is one at a row and a column.
func oneAt(i, j int) place { return place{i, j, unit} }

// All at once, of all that is as great as may be.
func TestIM3TooGreatByAll(t *testing.T) {
	m := imm.Imm{Chances: started[2], States: []predict.State{
		stateOf(vector{0: -top}, ones()), stateOf(vector{1: top}, both(onDiagonal(unit, 9*unit, 9*unit, unit, 9*unit, 9*unit), oneAt(1, 0))), stateOf(vector{0: top, 3: top}, onDiagonal(top, top, top, top, top, top)),
	}}
	wantGreat(t, "Seen", checkSeen(t, someConf(3), m, polar.Seen{X: top, Y: top, XX: unit, YY: unit}), those(byGap, byLike, byUpdate))
}
