package polar

import (
	"radome/api"
	"radome/qnum"
	"radome/trig"
	"radome/turn"
)

// spread sets how exact a place is by x and y, of what it is along a direction and across; it tells whether a number was too great.
func (s *Seen) spread(direction turn.Turn, along, across int64) bool {
	sine, cosine := trig.Both(direction)
	ss, cc, sc := product(sine, sine, api.Prob), product(cosine, cosine, api.Prob), product(sine, cosine, api.Prob)
	var overXX, overYY, overXY bool
	s.XX, overXX = sum(along, ss, across, cc)
	s.YY, overYY = sum(along, cc, across, ss)
	s.XY, overXY = sum(along, sc, -across, sc)
	return overXX || overYY || overXY
}

// sum is a times b and c times d together: rounded once, so not by two products. There are as many of both, so none is wrong.
func sum(a, b, c, d int64) (int64, bool) {
	n, over, _ := qnum.Dot([]int64{a, c}, []int64{b, d}, api.Prob)
	return n, over
}

// product is a times b, with so many bits behind the point. It tells of no fault, as there is none: of what may be here nothing is above 2^57, and so many bits may be.
func product(a, b int64, bits int) int64 {
	n, _, _ := qnum.Mul(a, b, bits)
	return n
}
