package ldl

import (
	"radome/api"
	"radome/qnum"
)

const one = 1 << api.Prob // in L

// steps are layer 3's, one behind the other: over tells whether an answer of one was too great.
type steps struct{ over bool }

// bounded is what a step answered.
func (s *steps) bounded(n int64, over bool) int64 {
	s.over = s.over || over
	return n
}

// number is what a step answered that could be wrong elsewhere. Here none is: so many bits may be, rows and vectors fit, and no number of D is 0.
func (s *steps) number(n int64, over bool, _ error) int64 { return s.bounded(n, over) }

// less is n with the sum of all products taken off; the sum is rounded and bounded ahead of that.
func (s *steps) less(n int64, a, b []int64) int64 {
	return s.bounded(qnum.Sub(n, s.number(qnum.Dot(a, b, api.Prob))))
}

// fillRow sets row i of the factors by that row of the matrix; those above it must be set.
func (f *Factors) fillRow(i int, numbers []int64, s *steps) {
	row := f.row(i)
	for j := range i {
		rest := s.less(numbers[j], row[:j], f.weighed(j, s))
		row[j] = s.number(qnum.Div(rest, f.D[j], api.Prob))
	}
	f.D[i] = s.less(numbers[i], row[:i], f.weighed(i, s))
	row[i] = one
}

// weighed is what stands in row j of L ahead of its one, each times the number of D at its column.
func (f *Factors) weighed(j int, s *steps) []int64 {
	var out [api.MaxSize]int64
	for k, n := range f.row(j)[:j] {
		out[k] = s.number(qnum.Mul(n, f.D[k], api.Prob))
	}
	return out[:j]
}

// downward is what is left of each part of a vector when what L makes of the parts above it is taken off.
func (f *Factors) downward(v []int64, s *steps) []int64 {
	out := make([]int64, f.N)
	for i := range out {
		out[i] = s.less(v[i], f.row(i)[:i], out[:i])
	}
	return out
}

// row is where row i of L stands in the factors themselves. It asks for a pointer, as a copy's row would be another one.
func (f *Factors) row(i int) []int64 { return f.L[i*f.N : (i+1)*f.N] }

// below is what stands in column i of L below its one.
func (f *Factors) below(i int) []int64 {
	var out [api.MaxSize]int64
	for j := i + 1; j < f.N; j++ {
		out[j] = f.row(j)[i]
	}
	return out[i+1 : f.N]
}

// mayBeInD tells whether n may stand at place i of D.
func (f *Factors) mayBeInD(n int64, i int) bool {
	if i >= f.N {
		return n == 0
	}
	return n >= 1 && n <= api.MaxTop
}

// mayBeInL tells whether n may stand at row i and column j of L; rows from N on are what stands behind the last place.
func (f *Factors) mayBeInL(n int64, i, j int) bool {
	switch {
	case i >= f.N || j > i:
		return n == 0
	case j == i:
		return n == one
	}
	_, over := qnum.Clamp(n)
	return !over
}
