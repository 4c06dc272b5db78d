package vec_test

import (
	"math/rand"
	"testing"

	"radome/vec"
)

func TestVE1Scale(t *testing.T) {
	for _, c := range []struct {
		a    []int64
		k    int64
		want []int64
		over bool
	}{
		{[]int64{3 << 19}, 3 << 19, []int64{9 << 18}, false}, // 1.5 times 1.5
		{nil, unit, nil, false}, {[]int64{}, most, nil, false}, {nil, least, nil, false},
		{[]int64{1, -2, 3, -4, 5, -6}, unit, []int64{1, -2, 3, -4, 5, -6}, false},
		{[]int64{1, -2, 3, -4, 5, -6}, -2 * unit, []int64{-2, 4, -6, 8, -10, 12}, false},
		{[]int64{most, least, top, -top, 1, 0}, 0, []int64{0, 0, 0, 0, 0, 0}, false},
		{[]int64{1, 3, 5, 7, 9, 11}, unit / 2, []int64{0, 2, 2, 4, 4, 6}, false}, // just a half each: the even one
		{[]int64{-1, -3, -5, -7, -9, -11}, unit / 2, []int64{0, -2, -2, -4, -4, -6}, false},
		{[]int64{1, 3, 5}, -unit / 2, []int64{0, -2, -2}, false},
		{[]int64{unit/2 - 1, unit / 2, unit/2 + 1, 3*unit/2 - 1, 3 * unit / 2, 3*unit/2 + 1}, 1, []int64{0, 0, 1, 1, 2, 2}, false},
		{[]int64{unit/2 - 1, unit / 2, unit/2 + 1, 3*unit/2 - 1, 3 * unit / 2, 3*unit/2 + 1}, -1, []int64{0, 0, -1, -1, -2, -2}, false},
		{[]int64{top, -top}, unit, []int64{top, -top}, false}, {[]int64{top, -top}, -unit, []int64{-top, top}, false},
		{[]int64{top + 1}, unit, []int64{top}, true}, {[]int64{-top - 1}, unit, []int64{-top}, true},
		{[]int64{top}, unit + 1, []int64{top}, true}, {[]int64{-top}, unit + 1, []int64{-top}, true}, {[]int64{top}, -unit - 1, []int64{-top}, true},
		{[]int64{most - 1, least + 2}, unit / 2, []int64{top, -top}, false}, {[]int64{most}, unit / 2, []int64{top}, true}, {[]int64{least + 1}, unit / 2, []int64{-top}, true}, // most by 2 is rounded to 2^62
		{[]int64{least}, unit / 2, []int64{-top}, true}, {[]int64{least}, -unit / 2, []int64{top}, true},
		{[]int64{most}, most, []int64{top}, true}, {[]int64{least}, least, []int64{top}, true}, {[]int64{least}, most, []int64{-top}, true}, {[]int64{most}, least, []int64{-top}, true},
		{[]int64{1, 2, 3, 4, 5, top}, 2 * unit, []int64{2, 4, 6, 8, 10, top}, true}, {[]int64{-top, 2, 3, 4, 5, 6}, 2 * unit, []int64{-top, 4, 6, 8, 10, 12}, true},
	} {
		got, over, err := vec.Scale(c.a, c.k)
		wantIs(t, call("Scale", c.a, c.k), got, over, err, c.want, c.over)
	}
}

func TestVE1ScaleOfEdgesAndRandomParts(t *testing.T) {
	for _, a := range edgeParts() {
		for _, k := range edgeParts() {
			checkScale(t, []int64{a}, k)
			checkScale(t, []int64{1, a, -1}, k)
		}
	}
	r := rand.New(rand.NewSource(4))
	for i := range 14000 {
		checkScale(t, vector(r, i%7), random(r))
	}
}

func TestVE1WrongScale(t *testing.T) {
	for _, parts := range []int{7, 8, 64, 65, 1000} {
		for _, k := range []int64{0, 1, unit, -unit, top, -top, most, least} {
			for _, part := range []int64{0, 1, most, least} {
				a := same(part, parts)
				got, over, err := vec.Scale(a, k)
				wantWrong(t, call("Scale", a, k), got, over, err)
			}
		}
	}
}

func TestVE1Size(t *testing.T) {
	for _, c := range []struct {
		a    []int64
		want int64
	}{
		{nil, 0}, {[]int64{}, 0}, {[]int64{0}, 0}, {[]int64{0, 0, 0, 0, 0, 0}, 0},
		{[]int64{5}, 5}, {[]int64{-5}, 5}, {[]int64{1, -2, 3, -4, 5, -6}, 6}, {[]int64{-1, 2, -3, 4, -5, 6}, 6}, {[]int64{7, 2, -3}, 7}, {[]int64{-7, 2, 3}, 7}, {[]int64{1, -9, 3}, 9},
		{[]int64{top - 1}, top - 1}, {[]int64{1 - top}, top - 1}, {[]int64{top}, top}, {[]int64{-top}, top}, {[]int64{top + 1}, top}, {[]int64{-top - 1}, top}, {[]int64{most}, top}, {[]int64{least + 1}, top}, {[]int64{least}, top},
		{[]int64{least, 1}, top}, {[]int64{1, least}, top}, {[]int64{most, least}, top}, {[]int64{0, 0, 0, 0, 0, least}, top}, {[]int64{most, 0, 0, 0, 0, 0}, top},
		{[]int64{1, 2, 3, 4, 5, 6, 7}, 7}, {same(-3, 1000), 3}, // no error can be told: the greatest is, of so many too
	} {
		if got := vec.Size(c.a); got != c.want {
			t.Errorf("Size(%v): %d; want %d", c.a, got, c.want)
		}
	}
}

// The size of a vector is reached by a part, and no part is greater.
func TestVE1SizeOfRandomParts(t *testing.T) {
	r := rand.New(rand.NewSource(5))
	for i := range 7000 {
		a := vector(r, i%7)
		want := int64(0)
		for _, part := range a {
			bounds, _ := exact([][]int64{{part}, {part}}, []int64{1, 0}, 0)
			want = max(want, bounds[0], -bounds[0])
		}
		if got := vec.Size(a); got != want {
			t.Errorf("Size(%v): %d; want %d", a, got, want)
		}
	}
}
