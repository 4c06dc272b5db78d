package mix

import (
	"slices"

	"radome/api"
	"radome/chance"
	"radome/mat"
	"radome/predict"
)

const (
	one  = 1 << api.Prob // what chances sum to
	many = 6             // parts of a state
)

// mayBeJoined tells whether there are states that may be, and as many chances.
func mayBeJoined(l []predict.State, chances []int64) bool {
	if len(l) != len(chances) || chance.Check(chances, 0) != nil {
		return false
	}
	for _, s := range l {
		if predict.Check(s) != nil {
			return false
		}
	}
	return true
}

// sharesTo are the shares to a place that there is, by chances and rows that may be.
func sharesTo(chances []int64, rows [][]int64, to int) []int64 {
	products := make([]int64, len(chances))
	for i, n := range chances {
		products[i] = n * rows[i][to] // none of both is above one: 2^60 at most
	}
	if slices.Max(products) == 0 {
		return sureAt(to, len(chances))
	}
	out, _ := chance.Of(products, 0) // none is below 0, and not all are 0
	return out
}

// sureAt are so many chances, of which one is for sure.
func sureAt(place, count int) []int64 {
	out := make([]int64, count)
	out[place] = one
	return out
}

// placesOf are the X of states.
func placesOf(l []predict.State) [][]int64 {
	out := make([][]int64, len(l))
	for i := range l {
		out[i] = l[i].X[:]
	}
	return out
}

// rowOfEach is one row of each matrix. It is asked for none but such as there are.
func rowOfEach(l []mat.Mat, i int) [][]int64 {
	out := make([][]int64, len(l))
	for k, m := range l {
		out[k], _ = m.Row(i)
	}
	return out
}

// notBelowNought has a diagonal that may be. Of states that may be it is so by itself; the document asks for it all the same.
func notBelowNought(m mat.Mat) mat.Mat {
	for i := range many {
		m.A[i*many+i] = max(m.A[i*many+i], 0)
	}
	return m
}
