package predict

import (
	"radome/api"
	"radome/mat"
)

// many is how many parts a state has, and so how many rows and columns a matrix that goes with it.
const many = 6

// parts are a number for each part of a state.
type parts [many]int64

// within tells whether all numbers are from least to greatest.
func within(least, greatest int64, numbers ...int64) bool {
	for _, n := range numbers {
		if n < least || n > greatest {
			return false
		}
	}
	return true
}

// isBounded tells whether no number is beyond MaxTop's size.
func isBounded(numbers ...int64) bool { return within(-api.MaxTop, api.MaxTop, numbers...) }

// isSix tells whether a matrix may be, and goes with a state.
func isSix(m mat.Mat) bool { return mat.Check(m) == nil && m.Rows == many && m.Cols == many }

// isSameTurned tells whether rows and columns may be taken for each other.
func isSameTurned(m mat.Mat) bool {
	turned, err := mat.Turn(m)
	return err == nil && turned == m
}

// isSpread tells whether the numbers of a matrix may tell how sure a state is.
func isSpread(m mat.Mat) bool {
	sure := diagonal(m)
	return isBounded(m.A[:]...) && within(0, api.MaxTop, sure[:]...)
}

// diagonal are the numbers where row and column are the same.
func diagonal(m mat.Mat) parts {
	var out parts
	for i := range out {
		out[i] = m.A[i*many+i]
	}
	return out
}

// withDiagonal is a matrix with other numbers where row and column are the same.
func withDiagonal(m mat.Mat, numbers parts) mat.Mat {
	for i, n := range numbers {
		m.A[i*many+i] = n
	}
	return m
}
