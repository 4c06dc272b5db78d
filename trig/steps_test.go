package trig

import "testing"

// What a step cuts below 0 is less than any answer tells, so it is asked for here.
func TestTG1StepsCutDown(t *testing.T) {
	cases := []struct {
		of                   pair
		k                    int
		anticlockwise, other pair
	}{
		{pair{5, 3}, 0, pair{2, 8}, pair{8, -2}},
		{pair{5, 3}, 1, pair{4, 5}, pair{6, 1}},
		{pair{5, -3}, 1, pair{7, -1}, pair{3, -5}},
		{pair{-5, -3}, 1, pair{-3, -6}, pair{-7, 0}},
		{pair{-5, 3}, 2, pair{-5, 1}, pair{-5, 5}},
		{pair{-1, -1}, 39, pair{0, -2}, pair{-2, 0}},
		{pair{1, 1}, 39, pair{1, 1}, pair{1, 1}},
	}
	for _, c := range cases {
		if got := c.of.anticlockwise(c.k); got != c.anticlockwise {
			t.Errorf("%v by step %d: %v; want %v", c.of, c.k, got, c.anticlockwise)
		}
		if got := c.of.clockwise(c.k); got != c.other {
			t.Errorf("%v by step %d, the other way: %v; want %v", c.of, c.k, got, c.other)
		}
	}
}
