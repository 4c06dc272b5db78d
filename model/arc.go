package model

import (
	"radome/api"
	"radome/qnum"
	"radome/trig"
	"radome/turn"
)

// arc is a turn to the right: its sine and cosine, and how far a velocity of one comes ahead and to the right on it.
type arc struct{ sine, cosine, ahead, aside int64 }

// arcOf is the one that a Rate makes in a time.
func (s *steps) arcOf(rate, dt int64) arc {
	// Rate times dt is at most 2^54; more than a whole turn is cut off by Turn's kind.
	sine, cosine := trig.Both(turn.Turn(rate * dt >> api.Frac))
	var a arc
	a.sine = s.number(qnum.Move(sine, api.Prob, api.Frac))
	a.cosine = s.number(qnum.Move(cosine, api.Prob, api.Frac))
	// A direction and what is turned in a second are the same parts of a turn. So many bits may be.
	radians, _ := turn.Radians(turn.Turn(rate), api.Frac)
	a.ahead = s.number(qnum.Div(a.sine, radians, api.Frac))
	a.aside = s.number(qnum.Div(s.bounded(qnum.Sub(one, a.cosine)), radians, api.Frac))
	return a
}

// mirrored is the same turn to the left: what is rounded is as far off both ways.
func (a arc) mirrored() arc { return arc{-a.sine, a.cosine, a.ahead, -a.aside} }

// rows are what the turn makes of a state; nothing of its acceleration is left.
func (a arc) rows() [][]int64 {
	return [][]int64{
		{one, a.ahead, 0, 0, a.aside, 0},
		{0, a.cosine, 0, 0, a.sine, 0},
		{0, 0, 0, 0, 0, 0},
		{0, -a.aside, 0, one, a.ahead, 0},
		{0, -a.sine, 0, 0, a.cosine, 0},
		{0, 0, 0, 0, 0, 0},
	}
}
