package update

import (
	"radome/ldl"
	"radome/mat"
	"radome/polar"
	"radome/predict"
	"radome/qnum"
)

// steps are those of the layers below, one behind the other: over tells whether a number of one was too great.
type steps struct{ over bool }

// number is what a step of layer 3 answered.
func (w *steps) number(n int64, over bool) int64 {
	w.over = w.over || over
	return n
}

// numbers are what a step answered that could be wrong elsewhere. Here none is: vectors have as many parts as what they meet asks for.
func (w *steps) numbers(v []int64, over bool, _ error) []int64 {
	w.over = w.over || over
	return v
}

// matrix is what a step answered that could be wrong elsewhere. Here none is: rows and columns fit.
func (w *steps) matrix(m mat.Mat, over bool, _ error) mat.Mat {
	w.over = w.over || over
	return m
}

// away is how far a place is from where the state says, by x and by y.
func (w *steps) away(s predict.State, p polar.Seen) [seen]int64 {
	return [seen]int64{w.number(qnum.Sub(p.X, s.X[xPart])), w.number(qnum.Sub(p.Y, s.X[yPart]))}
}

// spreadOfBoth is how unsure that is: as unsure as the state's place and what is seen are together.
func (w *steps) spreadOfBoth(spread mat.Mat, p polar.Seen) mat.Mat {
	own := at(spread)
	return evenPair(
		w.number(qnum.Add(own(xPart, xPart), p.XX)),
		w.number(qnum.Add(own(xPart, yPart), p.XY)),
		w.number(qnum.Add(own(yPart, yPart), p.YY)),
	)
}

// gain is how much of what a place is away each part of a state takes on: K.
func (w *steps) gain(spread mat.Mat, f ldl.Factors) mat.Mat {
	own := at(spread)
	out := mat.Mat{Rows: many, Cols: seen}
	for i := range many {
		row := w.numbers(ldl.Solve(f, []int64{own(i, xPart), own(i, yPart)}))
		copy(out.A[i*seen:], row)
	}
	return out
}

// kept is how much of itself each part keeps: B, ones less the gain.
func (w *steps) kept(gain mat.Mat) mat.Mat {
	taken := at(gain)
	out, _ := mat.Eye(many)
	for i := range many {
		row := out.A[i*many : (i+1)*many]
		row[xPart] = w.number(qnum.Sub(row[xPart], taken(i, 0)))
		row[yPart] = w.number(qnum.Sub(row[yPart], taken(i, 1)))
	}
	return out
}

// moved is where something is by what was seen, and how it moves.
func (w *steps) moved(x [many]int64, gain mat.Mat, away [seen]int64) [many]int64 {
	for i, n := range w.numbers(mat.Apply(gain, away[:])) {
		x[i] = w.number(qnum.Add(x[i], n))
	}
	return x
}

// spread is how sure that is: what is kept of how unsure the state was, and what is taken on of how unsure the place is.
func (w *steps) spread(own, gain, place mat.Mat) mat.Mat {
	kept := w.kept(gain)
	left := w.between(kept, own)
	taken := w.between(gain, place)
	return notBelowNought(w.matrix(mat.Even(w.matrix(mat.Add(left, taken)))))
}

// between is a spread with a matrix ahead of it, and that turned behind it; the products from the left on.
func (w *steps) between(m, spread mat.Mat) mat.Mat {
	ahead := w.matrix(mat.Mul(m, spread))
	return w.matrix(mat.Mul(ahead, turned(m)))
}
