package predict

import "radome/mat"

// steps are layer 8's, one behind the other: over tells whether a number of one was too great.
type steps struct{ over bool }

// matrix is what a step answered that could be wrong elsewhere. Here none is: all matrices have six rows and columns.
func (s *steps) matrix(m mat.Mat, over bool, _ error) mat.Mat {
	s.over = s.over || over
	return m
}

// moved is where a step brings something, and how it moves then.
func (s *steps) moved(x parts, step mat.Mat) parts {
	numbers, over, _ := mat.Apply(step, x[:]) // as many as it has columns
	s.over = s.over || over
	var out parts
	copy(out[:], numbers)
	return out
}

// spread is how sure that is.
func (s *steps) spread(p, step, noise mat.Mat) mat.Mat {
	turned, _ := mat.Turn(step) // it may be
	ahead := s.matrix(mat.Mul(step, p))
	both := s.matrix(mat.Mul(ahead, turned))
	more := s.matrix(mat.Add(both, noise))
	return notBelowNought(s.matrix(mat.Even(more)))
}

// notBelowNought has a diagonal that may be: a noise, or a P that no spread of anything is, can bring it below 0.
func notBelowNought(m mat.Mat) mat.Mat {
	sure := diagonal(m)
	for i, n := range sure {
		sure[i] = max(n, 0)
	}
	return withDiagonal(m, sure)
}
