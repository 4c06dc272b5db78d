package update

import (
	"radome/mat"
	"radome/polar"
	"radome/qnum"
)

const (
	many  = 6 // parts of a state
	seen  = 2 // of them are seen: those two that follow
	xPart = 0
	yPart = 3
)

// placeMayBe tells whether a place may be held against a state.
func placeMayBe(p polar.Seen) bool {
	return areBounded(p.X, p.Y, p.XX, p.YY, p.XY) && p.XX >= 0 && p.YY >= 0
}

// areBounded tells whether no number is beyond MaxTop's size.
func areBounded(numbers ...int64) bool {
	for _, n := range numbers {
		if _, over := qnum.Clamp(n); over {
			return false
		}
	}
	return true
}

// at tells the numbers of a matrix by row and column. It is asked for none but such as there are.
func at(m mat.Mat) func(i, j int) int64 {
	return func(i, j int) int64 {
		n, _ := m.At(i, j)
		return n
	}
}

// evenPair is a matrix of two rows and columns that is the same turned; such a one always may be.
func evenPair(xx, xy, yy int64) mat.Mat {
	out, _ := mat.Of([][]int64{{xx, xy}, {xy, yy}})
	return out
}

// spreadOfPlace is how exact a place is.
func spreadOfPlace(p polar.Seen) mat.Mat { return evenPair(p.XX, p.XY, p.YY) }

// turned is a matrix, which may be, with rows as columns.
func turned(m mat.Mat) mat.Mat {
	out, _ := mat.Turn(m)
	return out
}

// notBelowNought has a diagonal that may be: a spread that nothing has, or rounding, can bring it below 0.
func notBelowNought(m mat.Mat) mat.Mat {
	for i := range many {
		m.A[i*many+i] = max(m.A[i*many+i], 0)
	}
	return m
}
