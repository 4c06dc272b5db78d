package vec

import "radome/api"

// byPart is a vector with as many parts as each of the others, each told by part; whether one was too great. The others must be alike, so that part may ask all of them at each place.
func byPart(part func(i int) (int64, bool, error), others ...[]int64) ([]int64, bool, error) {
	if !alike(others...) {
		return nil, false, api.ErrArg
	}
	out := make([]int64, len(others[0]))
	great := false
	for i := range out {
		n, over, err := part(i)
		if err != nil {
			return nil, false, err
		}
		out[i], great = n, great || over
	}
	return out, great, nil
}

// alike tells whether there are vectors, all with as many parts, and with no more than a vector has.
func alike(l ...[]int64) bool {
	if len(l) == 0 {
		return false
	}
	for _, v := range l {
		if len(v) != len(l[0]) || len(v) > api.MaxSize {
			return false
		}
	}
	return true
}

// partsAt is the part at one place of each vector.
func partsAt(i int, l ...[]int64) []int64 {
	out := make([]int64, len(l))
	for j, v := range l {
		out[j] = v[i]
	}
	return out
}
