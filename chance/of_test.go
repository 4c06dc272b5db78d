package chance_test

import (
	"math/big"
	"math/rand"
	"slices"
	"testing"

	"radome/api"
	"radome/chance"
)

func TestCN2Of(t *testing.T) {
	for _, c := range []struct {
		weights []int64
		floor   int64
		want    []int64
	}{
		{[]int64{1}, 0, []int64{one}}, {[]int64{top}, 0, []int64{one}}, {[]int64{1}, highest, []int64{one}}, {[]int64{top}, highest, []int64{one}}, {[]int64{77}, 5, []int64{one}},
		{[]int64{1, 1, 1}, 0, []int64{357913942, 357913941, 357913941}}, {[]int64{top, top, top}, 0, []int64{357913942, 357913941, 357913941}}, // the document's example
		{[]int64{1, 3}, 0, []int64{268435456, 805306368}}, {[]int64{3, 1}, 0, []int64{805306368, 268435456}}, {[]int64{1, 2, 4, 1}, 0, []int64{134217728, 268435456, 536870912, 134217728}},
		{[]int64{0, 5}, 0, []int64{0, one}}, {[]int64{5, 0}, 0, []int64{one, 0}}, {[]int64{0, 0, 1, 0}, 0, []int64{0, 0, one, 0}}, {[]int64{0, 0, 0, top}, 0, []int64{0, 0, 0, one}},
		{[]int64{0, 5}, 1, []int64{1, one - 1}}, {[]int64{0, 0, top}, 10, []int64{10, 10, one - 20}}, {[]int64{0, 0, 1, 0}, highest, []int64{67108864, 67108864, 872415232, 67108864}}, {[]int64{top, 0, 0, 0}, highest, []int64{872415232, 67108864, 67108864, 67108864}},
		{[]int64{1, 3}, highest, []int64{301989888, 771751936}}, {[]int64{1, 1}, highest, []int64{536870912, 536870912}}, {[]int64{top, top, top, top}, highest, []int64{268435456, 268435456, 268435456, 268435456}},
		{[]int64{top, top}, 0, []int64{536870912, 536870912}}, {[]int64{top, top, top, top}, 0, []int64{268435456, 268435456, 268435456, 268435456}}, {[]int64{top, top, 0, top}, 0, []int64{357913942, 357913941, 0, 357913941}},
		{[]int64{top, 1}, 0, []int64{one, 0}}, {[]int64{1, top}, 0, []int64{0, one}}, {[]int64{1, 1, 1, top}, 0, []int64{0, 0, 0, one}}, {[]int64{top, 1}, 3, []int64{one - 3, 3}},
		{[]int64{top, 1<<31 + 1}, 0, []int64{one, 0}}, {[]int64{1<<31 + 1, top}, 0, []int64{1, one - 1}}, {[]int64{top, 1<<31 + 2}, 0, []int64{one - 1, 1}}, {[]int64{1 << 31, top}, 0, []int64{0, one}}, // just a half was cut off of both, or of one a little more
		{[]int64{1 << 31, 1<<62 - 1<<31}, 0, []int64{1, one - 1}}, {[]int64{1<<62 - 1<<31, 1 << 31}, 0, []int64{one, 0}}, // just a half of each: the earlier one
	} {
		got, err := chance.Of(c.weights, c.floor)
		wantIs(t, call("Of", c.weights, c.floor), got, err, c.want...)
		checkOf(t, c.weights, c.floor)
	}
}

// What is left over, by hand: 2^30 by 3, by 6 and by 7 leaves 1, 4 and 1; less four floors of 1 it leaves 0, 0 and 4.
func TestCN2WhatIsLeftOver(t *testing.T) {
	const third, sixth, seventh = 357913941, 178956970, 153391689
	for _, c := range []struct {
		weights []int64
		floor   int64
		want    []int64
	}{
		{[]int64{1, 1, 1}, 0, []int64{third + 1, third, third}}, // all had as much cut off
		{[]int64{0, 1, 1, 1}, 0, []int64{0, third + 1, third, third}}, {[]int64{1, 0, 1, 1}, 0, []int64{third + 1, 0, third, third}},
		{[]int64{1, 1, 1, 3}, 0, []int64{sixth + 1, sixth + 1, sixth, one / 2}}, {[]int64{3, 1, 1, 1}, 0, []int64{one / 2, sixth + 1, sixth + 1, sixth}}, {[]int64{1, 3, 1, 1}, 0, []int64{sixth + 1, one / 2, sixth + 1, sixth}}, // of three that had as much cut off, two
		{[]int64{1, 2, 3}, 0, []int64{sixth + 1, third, one / 2}}, {[]int64{3, 2, 1}, 0, []int64{one / 2, third, sixth + 1}}, {[]int64{2, 1, 1, 2}, 0, []int64{third, sixth + 1, sixth + 1, third}}, // four sixths are more than two
		{[]int64{1, 1, 1, 4}, 0, []int64{seventh, seventh, seventh, 4*seventh + 1}}, {[]int64{2, 2, 3}, 0, []int64{2 * seventh, 2 * seventh, 3*seventh + 1}}, {[]int64{2, 3, 2}, 0, []int64{2 * seventh, 3*seventh + 1, 2 * seventh}}, {[]int64{3, 1, 3}, 0, []int64{3*seventh + 1, seventh, 3 * seventh}}, {[]int64{1, 3, 3}, 0, []int64{seventh, 3*seventh + 1, 3 * seventh}}, {[]int64{2, 5}, 0, []int64{2 * seventh, 5*seventh + 1}}, {[]int64{2, 2, 2, 1}, 0, []int64{2*seventh + 1, 2 * seventh, 2 * seventh, seventh}},
		{[]int64{1, 1, 1, 0}, 1, []int64{third, third, third, 1}}, {[]int64{1, 1, 1, 4}, 1, []int64{seventh + 1, seventh + 1, seventh, 4*seventh - 1}},
	} {
		got, err := chance.Of(c.weights, c.floor)
		wantIs(t, call("Of", c.weights, c.floor), got, err, c.want...)
		checkOf(t, c.weights, c.floor)
	}
}

// What was cut off of the second is more than of the first, by one in 2^63: the second is the one that is given one, of both.
func TestCN2WhatIsLeftOverByVeryLittle(t *testing.T) {
	for _, c := range []struct{ weights, want []int64 }{
		{[]int64{3240201663685342980, 2410760861480656181, 4046054946023883320}, []int64{358784549, 266941333, 448015942}},
		{[]int64{3500256566015353497, 1258999652426771426, 3186545062768952316}, []int64{473000989, 170132695, 430608140}},
	} {
		for range 3 { // whichever of them comes first
			got, err := chance.Of(c.weights, 0)
			wantIs(t, call("Of", c.weights), got, err, c.want...)
			checkOf(t, c.weights, 0)
			c.weights, c.want = slices.Concat(c.weights[1:], c.weights[:1]), slices.Concat(c.want[1:], c.want[:1])
		}
	}
}

// All small weights: ties of all kinds, with each floor.
func TestCN2OfSmallWeights(t *testing.T) {
	for a := range int64(6) {
		for b := range int64(6) {
			for c := range int64(6) {
				for d := range int64(6) {
					for _, floor := range floors {
						for many := 1; many <= 4; many++ {
							if weights := []int64{a, b, c, d}[:many]; slices.Max(weights) > 0 && (many == 4 || d == 0) {
								checkOf(t, weights, floor)
							}
						}
					}
				}
			}
		}
	}
}

func TestCN2OfEdgesAndRandomWeights(t *testing.T) {
	r := rand.New(rand.NewSource(2))
	seen := [4]int{} // by how many are left over
	for i := range 60000 {
		floor := floors[r.Intn(len(floors))]
		if r.Intn(3) == 0 {
			floor = r.Int63n(highest + 1)
		}
		weights := weighed(r, 1+i%4)
		got := checkOf(t, weights, floor)
		seen[leftOver(weights, floor)]++
		times := top / slices.Max(weights)
		if times > 1 { // what all weights are multiplied by changes nothing
			greater := slices.Clone(weights)
			for j := range greater {
				greater[j] *= times
			}
			again, err := chance.Of(greater, floor)
			wantIs(t, call("Of", greater, floor), again, err, got...)
		}
	}
	if slices.Min(seen[:]) < 1000 {
		t.Errorf("left over: %v", seen)
	}
}

// leftOver is how many are given one more.
func leftOver(weights []int64, floor int64) int64 {
	all, whole := sumOf(bigs(weights)), one-floor*int64(len(weights))
	left := whole
	for _, n := range bigs(weights) {
		left -= n.Div(n.Mul(n, big.NewInt(whole)), all).Int64()
	}
	return left
}

// CN4: a weight that is greater by one, or the same: at each pair of places.
func TestCN4OfWeightsThatAreNearlyTheSame(t *testing.T) {
	for _, n := range []int64{1, 2, 3, 4, 5, 6, 7, 1000, one - 1, one, one + 1, 1<<31 - 1, 1 << 31, 1<<61 - 1, 1 << 61, top - 3, top - 2, top - 1} {
		for many := 2; many <= 4; many++ {
			for place := range many {
				for _, floor := range floors {
					weights := slices.Repeat([]int64{n}, many)
					same := checkOf(t, weights, floor)
					for i := 1; i < many; i++ {
						if same[i] > same[i-1] || same[i] < same[0]-1 {
							t.Errorf("Of(%v, %d): %v", weights, floor, same)
						}
					}
					weights[place]++
					checkOf(t, weights, floor)
					weights[place] -= 2
					if slices.Max(weights) > 0 {
						checkOf(t, weights, floor)
					}
				}
			}
		}
	}
}

// wrongWeights are some that may not be, of which not all are 0, or too many or none.
func wrongWeights() [][]int64 {
	out := [][]int64{nil, {}, make([]int64, 0, 3), {1, 1, 1, 1, 1}, {0, 0, 0, 0, 0}, {top, top, top, top, top}, slices.Repeat([]int64{1}, 6), make([]int64, 1000)}
	for many := 1; many <= 4; many++ {
		for place := range many {
			for _, n := range []int64{-1, -2, top + 1, top + 2, -top, -top - 1, most, most - 1, least, least + 1, -one} {
				for _, other := range []int64{0, 1, top} {
					weights := slices.Repeat([]int64{other}, many)
					weights[place] = n
					out = append(out, weights)
				}
			}
		}
	}
	return append(out, []int64{-1, 1}, []int64{least, least}, []int64{1, -1, 0}, []int64{most, most, 2}, []int64{least, most, 1})
}

func TestCN2WrongWeights(t *testing.T) {
	for _, weights := range wrongWeights() {
		for _, floor := range slices.Concat(floors, wrongFloors) {
			got, err := chance.Of(weights, floor)
			wantWrong(t, call("Of", weights, floor), got, err, 1)
		}
	}
}

// A floor that may not be is told ahead of weights that are all 0.
func TestCN2WrongFloors(t *testing.T) {
	for _, weights := range [][]int64{{1}, {top}, {1, 2}, {0, 1, 0}, {top, top, top, top}, {0}, {0, 0}, {0, 0, 0}, {0, 0, 0, 0}} {
		for _, floor := range wrongFloors {
			got, err := chance.Of(weights, floor)
			wantWrong(t, call("Of", weights, floor), got, err, 1)
		}
	}
}

func TestCN2WeightsThatAreAllNought(t *testing.T) {
	for many := 1; many <= 4; many++ {
		for _, floor := range floors {
			weights := make([]int64, many)
			got, err := chance.Of(weights, floor)
			wantWrong(t, call("Of", weights, floor), got, err, 11)
			if err != api.ErrNought {
				t.Errorf("Of(%v, %d): %v", weights, floor, err)
			}
		}
	}
}
