package chance_test

import (
	"math/rand"
	"slices"
	"testing"

	"radome/chance"
)

func TestCN1Check(t *testing.T) {
	for _, c := range []struct {
		l     []int64
		floor int64
	}{
		{[]int64{one}, 0}, {[]int64{one}, 1}, {[]int64{one}, highest},
		{[]int64{0, one}, 0}, {[]int64{one, 0}, 0}, {[]int64{0, 0, one, 0}, 0}, {[]int64{0, 0, 0, one}, 0},
		{[]int64{1, one - 1}, 0}, {[]int64{1, one - 1}, 1}, {[]int64{one / 2, one / 2}, highest},
		{[]int64{highest, one - highest}, highest}, {[]int64{one - highest, highest}, highest}, {[]int64{highest, highest, one - 2*highest}, highest},
		{[]int64{highest, highest, highest, one - 3*highest}, highest}, {[]int64{one - 3*highest, highest, highest, highest}, highest}, {[]int64{highest, highest, highest, one - 3*highest}, highest - 1},
		{[]int64{357913942, 357913941, 357913941}, highest}, {[]int64{7, 8, 9, one - 24}, 7},
	} {
		if err := chance.Check(c.l, c.floor); err != nil {
			t.Errorf("Check(%v, %d): %v", c.l, c.floor, err)
		}
	}
}

func TestCN1CheckOfRandomChances(t *testing.T) {
	r := rand.New(rand.NewSource(1))
	for i := range 40000 {
		floor := floors[r.Intn(len(floors))]
		l := shared(r, 1+i%4, floor)
		if err := chance.Check(l, floor); err != nil {
			t.Fatalf("Check(%v, %d): %v", l, floor, err)
		}
		lowest := slices.Min(l)
		for _, other := range []int64{lowest - 1, lowest, lowest + 1, highest, 0} {
			err := chance.Check(l, other)
			if other >= 0 && other <= highest && other <= lowest {
				if err != nil {
					t.Fatalf("Check(%v, %d): %v", l, other, err)
				}
				continue
			}
			wantError(t, call("Check", l, other), err, 1)
		}
		for j := range l {
			changed := slices.Clone(l)
			changed[j] += []int64{1, -1, one, -one, 1 << 32, -1 << 32, least}[r.Intn(7)]
			wantError(t, call("Check", changed, 0), chance.Check(changed, 0), 1)
		}
	}
}

// wrongChances are numbers that are no chances, whatever the floor is.
func wrongChances() [][]int64 {
	return [][]int64{
		nil, {}, make([]int64, 0, 4), {0}, {0, 0}, {0, 0, 0}, {0, 0, 0, 0}, // none, or nothing
		{0, 0, 0, 0, one}, {one, 0, 0, 0, 0}, {one / 4, one / 4, one / 4, one / 8, one / 8}, make([]int64, 64), // too many
		{one + 1}, {one - 1}, {2 * one}, {-one}, {1}, {top}, {most}, {least}, {one + 1<<32}, {one - 1<<32}, // one that is not all
		{one / 2, one/2 + 1}, {one/2 - 1, one / 2}, {one, 1}, {1, one}, {0, one - 1}, {357913942, 357913942, 357913941}, {357913941, 357913941, 357913941}, {one / 4, one / 4, one / 4, one/4 + 1}, {one/4 - 1, one / 4, one / 4, one / 4}, {one, one, one, one}, // one more or one less
		{-1, one + 1}, {one + 1, -1}, {one, 1, -1}, {one, -1, 1}, {-1, one, 0, 1}, {0, one, 1, -1}, {-one, 2 * one}, {-1, -1, one + 2}, {one / 2, one, -one / 2}, {top, one - top}, {-top, one + top}, // one below 0
		{most, least + 1 + one}, {least, most, one + 1}, {one + 1, most, least}, {most, -most, one}, {one, 0, most, -most}, // one below 0, as far as they go
		{most, most, 2, one}, {most, most, one + 2}, {one, 2, most, most}, {top + 1, top + 1, top + 1, top + 1 + one}, {1 << 62, 1 << 62, 1 << 62, 1<<62 + one}, {least, least + one}, {least, least, one}, {one, least, least}, {least, 0, one, least}, {most, 1, least, one}, // the sum wraps round to 2^30
	}
}

func TestCN1WrongChances(t *testing.T) {
	for _, l := range wrongChances() {
		for _, floor := range slices.Concat(floors, wrongFloors) {
			wantError(t, call("Check", l, floor), chance.Check(l, floor), 1)
		}
	}
}

// A floor that may not be is wrong, if no chance is below it too.
func TestCN1WrongFloors(t *testing.T) {
	for _, l := range [][]int64{{one}, {one / 2, one / 2}, {0, one}, {one / 4, one / 4, one / 4, one / 4}, {357913942, 357913941, 357913941}} {
		for _, floor := range wrongFloors {
			wantError(t, call("Check", l, floor), chance.Check(l, floor), 1)
		}
	}
}

// One that is below the floor is found at each place.
func TestCN1BelowTheFloor(t *testing.T) {
	for many := 2; many <= 4; many++ {
		for place := range many {
			for _, floor := range floors[1:] {
				for _, low := range []int64{floor - 1, 0, floor / 2} {
					l := make([]int64, many)
					rest := one - low
					for i := range l {
						l[i] = floor
						rest -= floor
					}
					l[place] = low
					l[(place+1)%many] += rest + floor
					wantChances(t, call("the test's", l), l, many, 0)
					wantError(t, call("Check", l, floor), chance.Check(l, floor), 1)
					if err := chance.Check(l, low); err != nil {
						t.Errorf("Check(%v, %d): %v", l, low, err)
					}
				}
			}
		}
	}
}
