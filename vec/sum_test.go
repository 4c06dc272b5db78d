package vec_test

import (
	"math/rand"
	"testing"

	"radome/vec"
)

// wrongPairs are vectors of which no sum is told: with other numbers of parts, or with more than six.
func wrongPairs() [][2][]int64 {
	var out [][2][]int64
	for _, parts := range [][2]int{{0, 1}, {1, 0}, {1, 2}, {2, 1}, {5, 6}, {6, 5}, {0, 6}, {6, 0}, {6, 7}, {7, 6}, {7, 7}, {8, 8}, {0, 7}, {7, 0}, {1000, 1000}} {
		out = append(out, [2][]int64{same(1, parts[0]), same(2, parts[1])})
		out = append(out, [2][]int64{same(most, parts[0]), same(most, parts[1])})
	}
	return out
}

func TestVE1Add(t *testing.T) {
	for _, c := range []struct {
		a, b, want []int64
		over       bool
	}{
		{[]int64{3 << 19}, []int64{5 << 19}, []int64{4 << 20}, false},
		{nil, nil, nil, false}, {nil, []int64{}, nil, false}, {[]int64{}, []int64{}, nil, false},
		{[]int64{0}, []int64{0}, []int64{0}, false},
		{[]int64{1, -2, 3, -4, 5, -6}, []int64{10, 20, 30, 40, 50, 60}, []int64{11, 18, 33, 36, 55, 54}, false},
		{[]int64{top}, []int64{0}, []int64{top}, false}, {[]int64{top - 1}, []int64{1}, []int64{top}, false}, {[]int64{top}, []int64{1}, []int64{top}, true},
		{[]int64{-top}, []int64{0}, []int64{-top}, false}, {[]int64{1 - top}, []int64{-1}, []int64{-top}, false}, {[]int64{-top}, []int64{-1}, []int64{-top}, true},
		{[]int64{top, -top}, []int64{-top, top}, []int64{0, 0}, false},
		{[]int64{top, -top}, []int64{top, -top}, []int64{top, -top}, true},
		{[]int64{most, least}, []int64{most, least}, []int64{top, -top}, true}, {[]int64{most, least}, []int64{least, most}, []int64{-1, -1}, false},
		{[]int64{most, least}, []int64{0, 0}, []int64{top, -top}, true}, {[]int64{most, least}, []int64{-top - 1, top + 2}, []int64{top, -top}, false},
		{[]int64{1, 2, 3, 4, 5, top}, []int64{1, 1, 1, 1, 1, 1}, []int64{2, 3, 4, 5, 6, top}, true},
		{[]int64{-top, 2, 3, 4, 5, 6}, []int64{-1, 1, 1, 1, 1, 1}, []int64{-top, 3, 4, 5, 6, 7}, true},
	} {
		got, over, err := vec.Add(c.a, c.b)
		wantIs(t, call("Add", c.a, c.b), got, over, err, c.want, c.over)
	}
}

func TestVE1Sub(t *testing.T) {
	for _, c := range []struct {
		a, b, want []int64
		over       bool
	}{
		{[]int64{4 << 20}, []int64{5 << 19}, []int64{3 << 19}, false},
		{nil, nil, nil, false}, {[]int64{}, nil, nil, false}, {[]int64{}, []int64{}, nil, false},
		{[]int64{0}, []int64{0}, []int64{0}, false},
		{[]int64{11, 18, 33, 36, 55, 54}, []int64{10, 20, 30, 40, 50, 60}, []int64{1, -2, 3, -4, 5, -6}, false},
		{[]int64{0}, []int64{top}, []int64{-top}, false}, {[]int64{-1}, []int64{top - 1}, []int64{-top}, false}, {[]int64{-1}, []int64{top}, []int64{-top}, true},
		{[]int64{0}, []int64{-top}, []int64{top}, false}, {[]int64{1}, []int64{1 - top}, []int64{top}, false}, {[]int64{1}, []int64{-top}, []int64{top}, true},
		{[]int64{top, -top}, []int64{top, -top}, []int64{0, 0}, false},
		{[]int64{top, -top}, []int64{-top, top}, []int64{top, -top}, true},
		{[]int64{most, least}, []int64{most, least}, []int64{0, 0}, false}, {[]int64{most, least}, []int64{least, most}, []int64{top, -top}, true},
		{[]int64{0}, []int64{least}, []int64{top}, true}, {[]int64{-top - 2}, []int64{least}, []int64{top}, false}, {[]int64{-top - 1}, []int64{least}, []int64{top}, true},
		{[]int64{1, 2, 3, 4, 5, top}, []int64{1, 1, 1, 1, 1, -1}, []int64{0, 1, 2, 3, 4, top}, true},
		{[]int64{-top, 2, 3, 4, 5, 6}, []int64{1, 1, 1, 1, 1, 1}, []int64{-top, 1, 2, 3, 4, 5}, true},
	} {
		got, over, err := vec.Sub(c.a, c.b)
		wantIs(t, call("Sub", c.a, c.b), got, over, err, c.want, c.over)
	}
}

func TestVE1SumsOfEdgesAndRandomParts(t *testing.T) {
	for _, a := range edgeParts() {
		for _, b := range edgeParts() {
			checkAdd(t, []int64{a, b, 1}, []int64{b, 1, a})
			checkSub(t, []int64{a, b, 1}, []int64{b, 1, a})
		}
	}
	r := rand.New(rand.NewSource(1))
	for i := range 7000 {
		a, b := vector(r, i%7), vector(r, i%7)
		checkAdd(t, a, b)
		checkSub(t, a, b)
	}
}

func TestVE1WrongSums(t *testing.T) {
	for _, c := range wrongPairs() {
		got, over, err := vec.Add(c[0], c[1])
		wantWrong(t, call("Add", c[0], c[1]), got, over, err)
		got, over, err = vec.Sub(c[0], c[1])
		wantWrong(t, call("Sub", c[0], c[1]), got, over, err)
	}
}

// VE3: Sub undoes Add, and Add undoes Sub, where nothing was too great.
func TestVE3WhatIsAddedMayBeTakenOff(t *testing.T) {
	r := rand.New(rand.NewSource(3))
	undone := 0
	for i := range 7000 {
		a, b := vector(r, i%7), vector(r, i%7)
		if sum, over, err := vec.Add(a, b); err == nil && !over {
			undone++
			back, _, err := vec.Sub(sum, b)
			want, great := exact([][]int64{a}, []int64{1}, 0) // a itself, where it is not beyond MaxTop's size
			if !great {
				wantIs(t, call("Sub behind Add", a, b), back, false, err, want, false)
			}
		}
		if rest, over, err := vec.Sub(a, b); err == nil && !over {
			undone++
			back, _, err := vec.Add(rest, b)
			want, great := exact([][]int64{a}, []int64{1}, 0)
			if !great {
				wantIs(t, call("Add behind Sub", a, b), back, false, err, want, false)
			}
		}
	}
	if undone < 3000 {
		t.Errorf("only %d sums could be undone", undone)
	}
	for _, parts := range []int{0, 1, 6} {
		sum, _, _ := vec.Add(same(top-1, parts), same(1, parts))
		back, over, err := vec.Sub(sum, same(1, parts))
		wantIs(t, call("Sub of parts", parts), back, over, err, same(top-1, parts), false)
	}
}
