package model

import (
	"radome/api"
	"radome/mat"
	"radome/qnum"
)

const (
	one    = 1 << api.Frac
	unsure = 1 << 4 // how much less sure each part of a state is, whatever the time
)

// block is what is reckoned of x, its velocity and its acceleration alone, or of y's.
type block [3][3]int64

// steps are layer 3's, one behind the other: over tells whether an answer of one was too great.
type steps struct{ over bool }

// bounded is what a step answered.
func (s *steps) bounded(n int64, over bool) int64 {
	s.over = s.over || over
	return n
}

// number is what a step answered that could be wrong elsewhere. Here none is: so many bits may be, and nothing is divided by 0, as the least Rate is more than 0 in radians too.
func (s *steps) number(n int64, over bool, _ error) int64 { return s.bounded(n, over) }

// product is a times b, with Frac bits behind the point.
func (s *steps) product(a, b int64) int64 { return s.number(qnum.Mul(a, b, api.Frac)) }

// half is how far something comes in a time that is pushed by one all the while.
func (s *steps) half(dt int64) int64 { return s.product(s.product(dt, dt), one/2) }

// matrix is that of rows, and whether a step ahead of it was too great.
func (s *steps) matrix(rows [][]int64) (mat.Mat, bool, error) {
	out, err := mat.Of(rows)
	if err != nil {
		return mat.Mat{}, false, err
	}
	return out, s.over, nil
}

// turns tells whether a model's velocity turns.
func (m Model) turns() bool { return m.Kind == Left || m.Kind == Right }

// rateMayBe tells whether its Rate is one of its kind's.
func (m Model) rateMayBe() bool {
	if m.turns() {
		return m.Rate >= minRate && m.Rate <= maxRate
	}
	return m.Rate == 0
}

func isTime(dt int64) bool { return dt >= 1 && dt <= maxTime }

// step is what a time makes of a state, row by row.
func (m Model) step(dt int64, s *steps) [][]int64 {
	switch m.Kind {
	case Left:
		return s.arcOf(m.Rate, dt).mirrored().rows()
	case Right:
		return s.arcOf(m.Rate, dt).rows()
	case Pushed:
		return twice(block{{one, dt, s.half(dt)}, {0, one, dt}, {0, 0, one}})
	}
	return twice(block{{one, dt, 0}, {0, one, 0}, {}})
}

// noise is how much less sure x, its velocity and its acceleration are after a time; y's are just as much.
func (m Model) noise(dt int64, s *steps) block {
	g := [3]int64{s.half(dt), dt, 0}
	if m.Kind == Pushed {
		g[2] = one
	}
	var out block
	for i, a := range g {
		for j, b := range g {
			out[i][j] = s.product(s.product(a, b), m.Noise)
		}
		out[i][i] = s.bounded(qnum.Add(out[i][i], unsure))
	}
	return out
}

// twice are the rows that have a block for x, and the same for y, of which neither hangs on the other.
func twice(b block) [][]int64 {
	rows := make([][]int64, 0, 2*len(b))
	for first := range 2 {
		for _, numbers := range b {
			row := make([]int64, 2*len(b))
			copy(row[first*len(b):], numbers[:])
			rows = append(rows, row)
		}
	}
	return rows
}
