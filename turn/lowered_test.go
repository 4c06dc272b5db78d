package turn

import "testing"

// What lies behind a half by less than a word can tell is of no direction, so it is asked for here.
func TestTU3LoweredByWhatIsLast(t *testing.T) {
	cases := []struct {
		whole, behind uint64
		places        int
		want          uint64
	}{
		{2, 1 << 63, 0, 2}, {3, 1 << 63, 0, 4}, {2, 1<<63 + 1, 0, 3}, {3, 1<<63 - 1, 0, 3},
		{1, 0, 1, 0}, {1, 1, 1, 1}, {3, 0, 1, 2}, {5, 0, 1, 2}, {5, 1, 1, 3},
		{1 << 59, 0, 60, 0}, {1 << 59, 1, 60, 1}, {1<<59 - 1, 1<<64 - 1, 60, 0}, {3 << 59, 0, 60, 2}, {5 << 59, 0, 60, 2}, {5 << 59, 1, 60, 3},
	}
	for _, c := range cases {
		if got := (exact{c.whole, c.behind}).lowered(c.places); got != c.want {
			t.Errorf("%d and %d behind it, lowered by %d: %d; want %d", c.whole, c.behind, c.places, got, c.want)
		}
	}
}
