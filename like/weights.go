package like

import (
	"radome/api"
	"radome/chance"
	"radome/grow"
	"radome/qnum"
)

// mayBeWeighed tells whether there are chances, and as many logarithms, none beyond MaxTop's size.
func mayBeWeighed(logs, chances []int64) bool {
	if len(logs) != len(chances) || chance.Check(chances, 0) != nil {
		return false
	}
	for _, n := range logs {
		if _, over := qnum.Clamp(n); over {
			return false
		}
	}
	return true
}

// likeliest is the greatest logarithm of those whose chance is above 0. As chances sum to one, there is always such a one.
func likeliest(logs, chances []int64) int64 {
	out := int64(-api.MaxTop)
	for i, n := range logs {
		if chances[i] > 0 {
			out = max(out, n)
		}
	}
	return out
}

// weighed are weights by how much less likely each is than the likeliest, and by its chance; whether one was too much less. The likeliest keeps all of its chance, so not all are 0.
func weighed(logs, chances []int64) ([]int64, bool) {
	top, over := likeliest(logs, chances), false
	out := make([]int64, len(logs))
	for i, n := range logs {
		if chances[i] == 0 {
			continue // its logarithm may be above the top
		}
		less, great := qnum.Sub(n, top)
		power, _ := grow.Exp(less)  // none is above 0
		out[i] = power * chances[i] // none of both is above one: 2^60 at most
		over = over || great
	}
	return out, over
}
