package vec_test

import (
	"math/rand"
	"slices"
	"testing"

	"radome/vec"
)

func TestVE2Join(t *testing.T) {
	for _, c := range []struct {
		l       [][]int64
		chances []int64
		want    []int64
		over    bool
	}{
		{[][]int64{{2 * unit, 4 * unit}, {4 * unit, -4 * unit}}, []int64{sure / 2, sure / 2}, []int64{3 * unit, 0}, false},
		{[][]int64{{10, 20}, {30, 40}, {50, 60}, {70, 80}}, []int64{0, 0, sure, 0}, []int64{50, 60}, false},
		{[][]int64{{10}, {30}, {50}, {70}}, []int64{sure / 4, sure / 4, sure / 4, sure / 4}, []int64{40}, false},
		{[][]int64{{1, 2, 3, 4, 5, 6}}, []int64{sure}, []int64{1, 2, 3, 4, 5, 6}, false},
		{[][]int64{{1, 2, 3, 4, 5, 6}}, []int64{-sure}, []int64{-1, -2, -3, -4, -5, -6}, false},
		{[][]int64{nil}, []int64{sure}, nil, false}, {[][]int64{{}, nil, {}, nil}, []int64{most, least, 0, sure}, nil, false},
		{[][]int64{{most, least}}, []int64{0}, []int64{0, 0}, false}, {[][]int64{{most}, {least}}, []int64{0, 0}, []int64{0}, false},
		{[][]int64{{1, 3, 5, -1, -3, -5}}, []int64{sure / 2}, []int64{0, 2, 2, 0, -2, -2}, false}, // just a half each: the even one
		{[][]int64{{1, 3, 5}, {2, 2, 2}}, []int64{sure / 2, sure}, []int64{2, 4, 4}, false},
		{[][]int64{{1}, {1}, {1}, {1}}, []int64{sure / 8, sure / 8, sure / 8, sure / 8}, []int64{0}, false}, // rounded once: a half in all
		{[][]int64{{1}, {1}, {1}, {1}}, []int64{sure / 8, sure / 8, sure / 8, sure/8 + 1}, []int64{1}, false},
		{[][]int64{{3}, {3}, {3}, {3}}, []int64{sure / 8, sure / 8, sure / 8, sure / 8}, []int64{2}, false},
		{[][]int64{{1}, {1}}, []int64{sure / 2, sure / 2}, []int64{1}, false}, {[][]int64{{1}, {1}}, []int64{3 * sure / 4, 3 * sure / 4}, []int64{2}, false},
		{[][]int64{{top, -top}}, []int64{sure}, []int64{top, -top}, false}, {[][]int64{{top, -top}, {1, -1}}, []int64{sure, sure / 2}, []int64{top, -top}, true}, // just a half beyond: 2^62 is even
		{[][]int64{{top}, {1}}, []int64{sure, sure/2 - 1}, []int64{top}, false}, {[][]int64{{-top}, {-1}}, []int64{sure, sure/2 - 1}, []int64{-top}, false},
		{[][]int64{{top}, {1}}, []int64{sure, sure}, []int64{top}, true}, {[][]int64{{-top}, {-1}}, []int64{sure, sure}, []int64{-top}, true},
		{[][]int64{{top + 1}}, []int64{sure}, []int64{top}, true}, {[][]int64{{-top - 1}}, []int64{sure}, []int64{-top}, true}, {[][]int64{{top}}, []int64{sure + 1}, []int64{top}, true}, {[][]int64{{top}}, []int64{-sure - 1}, []int64{-top}, true},
		{[][]int64{{most}, {most}}, []int64{sure, -sure}, []int64{0}, false}, {[][]int64{{most}, {-top - 1}}, []int64{sure, sure}, []int64{top}, false}, // only the sum is bounded
		{[][]int64{{most}, {least}, {1}}, []int64{most, most, most}, []int64{0}, false}, {[][]int64{{least}, {least}, {7}}, []int64{least, most, 0}, []int64{1 << 33}, false},
		{[][]int64{{least}, {least}, {least}, {least}}, []int64{least, least, least, least}, []int64{top}, true}, {[][]int64{{least}, {least}, {least}, {least}}, []int64{most, most, most, most}, []int64{-top}, true},
		{[][]int64{{1, 2, 3, 4, 5, top}, {0, 0, 0, 0, 0, top}}, []int64{sure, sure}, []int64{1, 2, 3, 4, 5, top}, true}, {[][]int64{{-top, 2}, {-top, 3}}, []int64{sure, sure}, []int64{-top, 5}, true},
	} {
		got, over, err := vec.Join(c.l, c.chances)
		wantIs(t, call("Join", c.l, c.chances), got, over, err, c.want, c.over)
	}
}

func TestVE2JoinOfEdgesAndRandomParts(t *testing.T) {
	r := rand.New(rand.NewSource(6))
	for _, a := range edgeParts() {
		for _, c := range edgeParts() {
			checkJoin(t, [][]int64{{a}}, []int64{c})
			checkJoin(t, [][]int64{{a, 1}, {c, a}}, []int64{c, sure - c})
			checkJoin(t, [][]int64{{a}, {c}, {random(r)}, {-1}}, []int64{c, a, sure / 2, random(r)})
		}
	}
	for i := range 20000 {
		l := make([][]int64, 1+i%4)
		for j := range l {
			l[j] = vector(r, i%7)
		}
		checkJoin(t, l, vector(r, len(l)))
	}
}

func TestVE2WrongJoins(t *testing.T) {
	two := []int64{1, 2}
	for _, c := range []struct {
		l       [][]int64
		chances []int64
	}{
		{nil, nil}, {[][]int64{}, []int64{}}, {nil, []int64{sure}}, {[][]int64{two}, nil}, // no vectors, or no chances
		{[][]int64{two}, []int64{0, sure}}, {[][]int64{two, two}, []int64{sure}}, {[][]int64{two, two, two, two}, []int64{1, 2, 3}}, {[][]int64{two, two, two, two}, []int64{1, 2, 3, 4, 5}}, {[][]int64{nil}, []int64{0, sure}}, {[][]int64{nil, nil}, []int64{sure}},
		{[][]int64{two, two, two, two, two}, []int64{1, 2, 3, 4, 5}}, {[][]int64{nil, nil, nil, nil, nil}, []int64{1, 2, 3, 4, 5}}, {[][]int64{two, two, two, two, two}, []int64{1, 2, 3, 4}},
		{[][]int64{two, {1}}, []int64{1, 2}}, {[][]int64{{1}, two}, []int64{1, 2}}, {[][]int64{two, two, two, nil}, []int64{1, 2, 3, 4}}, {[][]int64{nil, two}, []int64{1, 2}}, {[][]int64{two, two, {1, 2, 3}, two}, []int64{1, 2, 3, 4}},
		{[][]int64{same(1, 7)}, []int64{sure}}, {[][]int64{same(1, 7), same(1, 7), same(1, 7), same(1, 7)}, []int64{1, 2, 3, 4}}, {[][]int64{same(1, 6), same(1, 7)}, []int64{1, 2}}, {[][]int64{same(1, 7), same(1, 6)}, []int64{1, 2}}, {[][]int64{same(most, 1000)}, []int64{most}},
		{make([][]int64, 1000), make([]int64, 1000)}, {make([][]int64, 64), make([]int64, 64)},
	} {
		got, over, err := vec.Join(c.l, c.chances)
		wantWrong(t, call("Join", c.l, c.chances), got, over, err)
	}
}

// sharedOut is so many chances that sum to one, none below 0.
func sharedOut(r *rand.Rand, n int) []int64 {
	out := make([]int64, n)
	left := sure
	for i := range n - 1 {
		out[i] = r.Int63n(left+1) >> r.Intn(30)
		left -= out[i]
	}
	out[n-1] = left
	r.Shuffle(n, func(i, j int) { out[i], out[j] = out[j], out[i] })
	return out
}

// VE3: what is joined by chances that sum to one is, at each place, no less than the least part there and no more than the greatest, but for a last bit; and it is never too great.
func TestVE3AJoinLiesBetween(t *testing.T) {
	r := rand.New(rand.NewSource(7))
	for i := range 20000 {
		l := make([][]int64, 1+i%4)
		for j := range l {
			l[j] = vector(r, 1+i%6)
			for k, part := range l[j] {
				l[j][k] = min(max(part, -top), top)
			}
		}
		chances := sharedOut(r, len(l))
		got, over, err := vec.Join(l, chances)
		if over || err != nil || len(got) != 1+i%6 {
			t.Fatalf("Join(%v, %v): %v, %v, %v", l, chances, got, over, err)
		}
		for k := range got {
			lowest, highest := l[0][k], l[0][k]
			for _, v := range l {
				lowest, highest = min(lowest, v[k]), max(highest, v[k])
			}
			if got[k] < lowest-1 || got[k] > highest+1 {
				t.Errorf("Join(%v, %v): %v: place %d is not between", l, chances, got, k)
			}
		}
	}
}

// VE3: what is the same in all vectors is the same in their join.
func TestVE3AJoinOfTheSame(t *testing.T) {
	r := rand.New(rand.NewSource(8))
	for i, part := range slices.Repeat(edgeParts(), 20) {
		n := min(max(part, -top), top)
		l := slices.Repeat([][]int64{{n, -n}}, 1+i%4)
		chances := sharedOut(r, len(l))
		got, over, err := vec.Join(l, chances)
		wantIs(t, call("Join", l, chances), got, over, err, []int64{n, -n}, false)
	}
}
