package chance_test

import (
	"math/rand"
	"slices"
	"testing"

	"radome/chance"
)

func wantMost(t testing.TB, l []int64, want int) {
	t.Helper()
	if got, err := chance.Most(l); got != want || err != nil {
		t.Errorf("Most(%v): %d, %v; want %d", l, got, err, want)
	}
}

func TestCN3Most(t *testing.T) {
	for _, c := range []struct {
		l    []int64
		want int
	}{
		{[]int64{one}, 0}, {[]int64{0}, 0}, {[]int64{0, one}, 1}, {[]int64{one, 0}, 0}, {[]int64{1, 2, 3}, 2}, {[]int64{1, 3, 2}, 1}, {[]int64{3, 2, 1}, 0}, {[]int64{1, 2, 4, 3}, 2}, {[]int64{1, 2, 3, 4}, 3}, {[]int64{357913942, 357913941, 357913941}, 0}, {[]int64{357913941, 357913942, 357913941}, 1},
		{[]int64{5, 5}, 0}, {[]int64{5, 5, 5}, 0}, {[]int64{5, 5, 5, 5}, 0}, {[]int64{0, 0, 0, 0}, 0}, {[]int64{4, 5, 5}, 1}, {[]int64{5, 4, 5}, 0}, {[]int64{4, 5, 4, 5}, 1}, {[]int64{1, 2, 5, 5}, 2}, {[]int64{one / 4, one / 4, one / 4, one / 4}, 0}, // the first of several
		{[]int64{-1}, 0}, {[]int64{-2, -1}, 1}, {[]int64{-1, -2}, 0}, {[]int64{-3, -3, -2, -2}, 2}, {[]int64{-1, 0}, 1}, // they need not be chances
		{[]int64{least}, 0}, {[]int64{least, most}, 1}, {[]int64{most, least}, 0}, {[]int64{least, least, least + 1}, 2}, {[]int64{least, least}, 0}, {[]int64{most - 1, most, most}, 1}, {[]int64{-top - 1, least, 1, top + 1}, 3}, {[]int64{least, -1, least, most}, 3},
	} {
		wantMost(t, c.l, c.want)
	}
}

func TestCN3MostOfAllOrders(t *testing.T) {
	r := rand.New(rand.NewSource(9))
	for i := range 20000 {
		l := make([]int64, 1+i%4)
		for j := range l {
			l[j] = int64(r.Uint64()) >> r.Intn(64)
			if r.Intn(2) == 0 {
				l[j] = r.Int63n(4)
			}
		}
		got, err := chance.Most(l)
		if err != nil || got < 0 || got >= len(l) {
			t.Fatalf("Most(%v): %d, %v", l, got, err)
		}
		for j, n := range l {
			if n > l[got] || n == l[got] && j < got {
				t.Errorf("Most(%v): %d, but there is %d", l, got, j)
			}
		}
	}
}

func TestCN3WrongMost(t *testing.T) {
	for _, l := range [][]int64{nil, {}, make([]int64, 0, 4), {0, 0, 0, 0, one}, {1, 2, 3, 4, 5}, slices.Repeat([]int64{most}, 6), make([]int64, 1000)} {
		got, err := chance.Most(l)
		wantError(t, call("Most", l), err, 1)
		if got != 0 {
			t.Errorf("Most(%v): %d beside an error", l, got)
		}
	}
}
