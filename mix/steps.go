package mix

import (
	"radome/mat"
	"radome/predict"
	"radome/vec"
)

// steps are those of the layers below, one behind the other: over tells whether a number of one was too great.
type steps struct{ over bool }

// vector is what a step answered that could be wrong elsewhere. Here none is: there are as many chances as vectors, all with six parts.
func (w *steps) vector(v []int64, over bool, _ error) []int64 {
	w.over = w.over || over
	return v
}

// matrix is what a step answered that could be wrong elsewhere. Here none is: all matrices have six rows and columns.
func (w *steps) matrix(m mat.Mat, over bool, _ error) mat.Mat {
	w.over = w.over || over
	return m
}

// joined is one state of some, each by its chance; they may be joined.
func (w *steps) joined(l []predict.State, chances []int64) predict.State {
	x := w.vector(vec.Join(placesOf(l), chances))
	out := predict.State{P: w.spread(l, chances, x)}
	copy(out.X[:], x)
	return out
}

// spread is how unsure of a middle some states are together.
func (w *steps) spread(l []predict.State, chances, middle []int64) mat.Mat {
	each := make([]mat.Mat, len(l))
	for i, s := range l {
		each[i] = w.spreadAbout(middle, s)
	}
	rows := make([][]int64, many)
	for i := range rows {
		rows[i] = w.vector(vec.Join(rowOfEach(each, i), chances))
	}
	all, _ := mat.Of(rows) // six rows of six numbers
	return notBelowNought(w.matrix(mat.Even(all)))
}

// spreadAbout is how unsure of a middle a state is: as unsure as of itself, and by how far it is away.
func (w *steps) spreadAbout(middle []int64, s predict.State) mat.Mat {
	away := w.vector(vec.Sub(s.X[:], middle))
	more := w.matrix(mat.Outer(away, away))
	return w.matrix(mat.Add(s.P, more))
}
