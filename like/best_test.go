package like_test

import (
	"math/rand"
	"slices"
	"testing"

	"radome/like"
)

func TestLK3Best(t *testing.T) {
	for _, c := range []struct {
		logs  []int64
		place int
		by    int64
	}{
		{[]int64{3, 9, 7}, 1, 2}, {[]int64{9, 3, 7}, 0, 2}, {[]int64{3, 7, 9}, 2, 2}, {[]int64{-3, -9, -7}, 0, 4}, {[]int64{0, -1}, 0, 1}, {[]int64{-1, 0}, 1, 1},
		{[]int64{5, 5}, 0, 0}, {[]int64{1, 5, 5}, 1, 0}, {[]int64{5, 1, 5}, 0, 0}, {[]int64{5, 5, 5}, 0, 0}, {[]int64{-8946712, -6857394, -8298530}, 1, 1441136},
		{[]int64{most, most}, 0, 0}, {[]int64{least, least}, 0, 0}, {[]int64{least, most, least, most}, 1, 0},
	} {
		wantBest(t, c.logs, c.place, c.by)
		checkBest(t, c.logs)
	}
}

// One alone is greater than none by as much as may be, whatever it is.
func TestLK3BestOfOne(t *testing.T) {
	for _, n := range append([]int64{0, 1, -1, unit, top, -top, top - 1}, beyond...) {
		wantBest(t, []int64{n}, 0, top)
	}
}

// How much greater it is is bounded, as far as 64 bits go: the numbers themselves are not.
func TestLK3BestOfNumbersFarFromEachOther(t *testing.T) {
	for _, c := range []struct{ greatest, other, by int64 }{
		{most, least, top}, {most, most - 1, 1}, {least + 1, least, 1}, {most, 0, top}, {0, least, top}, {most, -1, top}, {1, least, top},
		{top, 0, top}, {top - 1, 0, top - 1}, {top + 1, 0, top}, {top, 1, top - 1}, {top, -1, top}, {0, -top, top}, {0, 1 - top, top - 1}, {0, -top - 1, top}, {top, -top, top},
		{1 << 61, -1 << 61, top}, {1<<61 - 1, -1 << 61, top}, {1<<61 - 1, 1 - 1<<61, top - 1}, {most, top, 1 << 62}, {most, 1 << 62, top}, {most, 1<<62 + 1, top - 1}, {-1 << 62, least, top}, {-1<<62 - 1, least, top}, {-1<<62 - 2, least, top - 1},
	} {
		by := min(c.by, top)
		for _, many := range []int{2, 3, 4, 63, 64} {
			for place := range many {
				logs := slices.Repeat([]int64{c.other}, many)
				logs[place] = c.greatest
				wantBest(t, logs, place, by)
				checkBest(t, logs)
			}
		}
	}
}

// Two of from 2 to 64 are the greatest, at any two places: it is the first one, by nothing. So it is where the other one is less by one.
func TestLK3BestOfTwoThatAreTheGreatest(t *testing.T) {
	for many := 2; many <= 64; many++ {
		for first := range many {
			for second := first + 1; second < many; second++ {
				greatest := []int64{0, 7, -7, top, most, least + 9}[(first+second)%6]
				logs := slices.Repeat([]int64{greatest - 9}, many)
				logs[first], logs[second] = greatest, greatest
				wantBest(t, logs, first, 0)
				logs[first]--
				wantBest(t, logs, second, 1)
				logs[first], logs[second] = greatest, greatest-1
				wantBest(t, logs, first, 1)
			}
		}
	}
}

func TestLK3BestOfAllTheSame(t *testing.T) {
	for many := 2; many <= 64; many++ {
		for _, n := range []int64{0, 1, -1, top, -top, most, least} {
			wantBest(t, slices.Repeat([]int64{n}, many), 0, 0)
		}
	}
}

// They rise, or fall: the greatest is at an end.
func TestLK3BestOfOneBehindTheOther(t *testing.T) {
	for many := 2; many <= 64; many++ {
		up, down := make([]int64, many), make([]int64, many)
		for i := range up {
			up[i], down[i] = int64(i*i), -int64(i*i)
		}
		wantBest(t, up, many-1, int64(2*many-3))
		wantBest(t, down, 0, 1)
	}
}

func TestLK3BestOfRandomNumbers(t *testing.T) {
	r := rand.New(rand.NewSource(12))
	for i := range 40000 {
		logs, bits := make([]int64, 1+i%64), r.Intn(64)
		for j := range logs {
			logs[j] = int64(r.Uint64()) >> bits
		}
		checkBest(t, logs)
	}
}

// What Of tells of gaps: the best is the nearest of those that are as unsure.
func TestLK3BestOfGaps(t *testing.T) {
	f := pair{half, 4 * unit, 2 * unit}
	var logs []int64
	for _, x := range []int64{9, -4, 2, -3, 7} {
		n, _, err := like.Of(f.gap([2]int64{x * unit, x * unit}))
		if err != nil {
			t.Fatal(err)
		}
		logs = append(logs, n)
	}
	// A quarter of x by x, and an eighth: half of it is 3 by 16 of 9, less 3 by 16 of 4.
	wantBest(t, logs, 2, 15*unit/16)
}
