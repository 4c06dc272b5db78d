package mat_test

import (
	"math/rand"
	"slices"
	"testing"

	"radome/mat"
)

// times is a table all of whose numbers are so many times greater.
func times(l table, n int64) table {
	out := filled(0, len(l), len(l[0]))
	for i := range l {
		for j := range l[i] {
			out[i][j] = l[i][j] * n
		}
	}
	return out
}

func TestMA2Mul(t *testing.T) {
	square := times(table{{1, 2}, {3, 4}}, unit)
	for _, c := range []struct {
		a, b, want table
		over       bool
	}{
		{square, square, times(table{{7, 10}, {15, 22}}, unit), false},
		{times(table{{1, 2, 3}}, unit), table{{4}, {5}, {6}}, table{{32}}, false}, {table{{4}, {5}}, times(table{{1, 2, 3}}, unit), table{{4, 8, 12}, {5, 10, 15}}, false},
		{table{{0}}, table{{0}}, table{{0}}, false}, {table{{0}}, table{{least}}, table{{0}}, false}, {table{{3 << 19}}, table{{-3 << 19}}, table{{-9 << 18}}, false},
		{filled(unit, 6, 6), filled(2*unit, 6, 6), filled(12*unit, 6, 6), false}, {filled(unit, 1, 6), filled(3, 6, 1), table{{18}}, false}, {filled(unit, 6, 1), filled(3, 1, 6), filled(3, 6, 6), false},
		{table{{unit / 2}}, table{{1}}, table{{0}}, false}, {table{{unit / 2}}, table{{3, 5, -1, -3, -5, 1}}, table{{2, 2, 0, -2, -2, 0}}, false}, // just a half: the even one
		{table{{unit/2 - 1}, {unit/2 + 1}, {1 - unit/2}, {-1 - unit/2}}, table{{1}}, table{{0}, {1}, {0}, {-1}}, false},
		{table{{unit / 4, unit / 4}}, table{{1}, {1}}, table{{0}}, false}, {table{{unit / 4, unit / 4}}, table{{1}, {5}}, table{{2}}, false}, {table{{unit / 2, unit / 2}}, table{{1}, {1}}, table{{1}}, false}, // rounded once
		{filled(unit/12+1, 1, 6), filled(1, 6, 1), table{{1}}, false}, {filled(unit/4, 1, 6), filled(1, 6, 1), table{{2}}, false}, {filled(unit/4, 1, 6), filled(-1, 6, 1), table{{-2}}, false},
		{table{{top, -top}}, table{{unit, 0}, {0, unit}}, table{{top, -top}}, false}, {table{{top, 1}}, table{{unit}, {unit}}, table{{top}}, true}, {table{{-top, 1}}, table{{unit}, {-unit}}, table{{-top}}, true},
		{table{{top - 1, 1}}, table{{unit}, {unit}}, table{{top}}, false}, {table{{1 - top, 1}}, table{{unit}, {-unit}}, table{{-top}}, false},
		{table{{top, unit/2 - 1}}, table{{unit}, {1}}, table{{top}}, false}, {table{{top, unit / 2}}, table{{unit}, {1}}, table{{top}}, true}, // just a half beyond: 2^62 is even
		{table{{-top, unit/2 - 1}}, table{{unit}, {-1}}, table{{-top}}, false}, {table{{-top, unit / 2}}, table{{unit}, {-1}}, table{{-top}}, true},
		{table{{most, most}}, table{{unit}, {-unit}}, table{{0}}, false}, {table{{most, -top - 1}}, table{{unit}, {unit}}, table{{top}}, false}, {table{{top, top, -top, -top, 5, 0}}, filled(unit, 6, 1), table{{5}}, false}, // only the sum is bounded
		{table{{most, least, 7}}, table{{most}, {most}, {most}}, table{{6 * (1 << 43)}}, false}, {table{{least, least}}, table{{least}, {most}}, table{{1 << 43}}, false},
		{filled(least, 6, 6), filled(least, 6, 6), filled(top, 6, 6), true}, {filled(least, 6, 6), filled(most, 6, 6), filled(-top, 6, 6), true}, {filled(most, 6, 6), filled(most, 6, 6), filled(top, 6, 6), true},
	} {
		got, over, err := mat.Mul(matOf(c.a), matOf(c.b))
		wantIs(t, call("Mul", c.a, c.b), got, over, err, c.want, c.over)
	}
}

func TestMA2ProductsOfEdges(t *testing.T) {
	for _, a := range edges() {
		for _, b := range edges() {
			checkMul(t, table{{a}}, table{{b}})
			checkMul(t, table{{a, b}, {1, a}}, table{{b, 1}, {a, b}})
			checkApply(t, table{{a, b, 1}, {b, b, unit}}, []int64{b, 1, a})
			checkOuter(t, []int64{a, 1, b}, []int64{b, a})
		}
	}
}

func TestMA2ProductsOfRandomNumbers(t *testing.T) {
	r := rand.New(rand.NewSource(4))
	for _, size := range slices.Repeat(sizes(), 12) {
		a := randomRows(r, size[0], size[1])
		for cols := 1; cols <= 6; cols++ {
			checkMul(t, a, randomRows(r, size[1], cols))
		}
		checkApply(t, a, vector(r, size[1]))
		checkOuter(t, vector(r, size[0]), vector(r, size[1]))
	}
}

func TestMA2Apply(t *testing.T) {
	for _, c := range []struct {
		m    table
		v    []int64
		want []int64
		over bool
	}{
		{times(table{{1, 2}, {3, 4}}, unit), []int64{5 * unit, 6 * unit}, []int64{17 * unit, 39 * unit}, false},
		{times(table{{1, 2, 3}, {4, 5, 6}}, unit), []int64{1, 10, 100}, []int64{321, 654}, false},
		{times(table{{1, 2, 3, 4, 5, 6}}, unit), []int64{1, 1, 1, 1, 1, 1}, []int64{21}, false}, {times(table{{1}, {2}, {3}, {4}, {5}, {6}}, unit), []int64{-7}, []int64{-7, -14, -21, -28, -35, -42}, false},
		{table{{0}}, []int64{least}, []int64{0}, false}, {filled(unit, 6, 6), []int64{1, 2, 3, 4, 5, 6}, []int64{21, 21, 21, 21, 21, 21}, false},
		{table{{1}, {3}, {5}, {-1}, {-3}, {-5}}, []int64{unit / 2}, []int64{0, 2, 2, 0, -2, -2}, false}, {table{{1, 1}, {1, 5}}, []int64{unit / 4, unit / 4}, []int64{0, 2}, false}, // just a half, rounded once
		{table{{unit, 0}, {0, unit}}, []int64{top, -top}, []int64{top, -top}, false}, {table{{unit, unit}, {0, 0}}, []int64{top, 1}, []int64{top, 0}, true}, {table{{0, 0}, {-unit, -unit}}, []int64{top, 1}, []int64{0, -top}, true},
		{table{{unit, unit}}, []int64{top - 1, 1}, []int64{top}, false}, {table{{-unit, -unit}}, []int64{top - 1, 1}, []int64{-top}, false}, {table{{unit, unit}}, []int64{most, -top - 1}, []int64{top}, false}, {table{{unit, -unit}}, []int64{least, least}, []int64{0}, false},
		{filled(least, 6, 6), slices.Repeat([]int64{least}, 6), slices.Repeat([]int64{top}, 6), true}, {filled(least, 2, 6), slices.Repeat([]int64{most}, 6), []int64{-top, -top}, true},
	} {
		got, over, err := mat.Apply(matOf(c.m), c.v)
		wantNumbers(t, call("Apply", c.m, c.v), got, over, err, c.want, c.over)
	}
}

func TestMA2Outer(t *testing.T) {
	six := []int64{1, 2, 3, 4, 5, 6}
	for _, c := range []struct {
		a, b []int64
		want table
		over bool
	}{
		{[]int64{2 * unit, 3 * unit}, []int64{5, 7, 9}, table{{10, 14, 18}, {15, 21, 27}}, false},
		{[]int64{3 << 19}, []int64{5 << 19}, table{{15 << 18}}, false}, {[]int64{0}, []int64{most}, table{{0}}, false},
		{[]int64{unit}, six, table{six}, false}, {six, []int64{-unit}, table{{-1}, {-2}, {-3}, {-4}, {-5}, {-6}}, false},
		{slices.Repeat([]int64{unit}, 6), six, table{six, six, six, six, six, six}, false},
		{[]int64{unit / 2, -unit / 2}, []int64{1, 3, 5, -1, -3, -5}, table{{0, 2, 2, 0, -2, -2}, {0, -2, -2, 0, 2, 2}}, false}, // just a half: the even one
		{[]int64{top, -top}, []int64{unit, -unit}, table{{top, -top}, {-top, top}}, false}, {[]int64{top, 1}, []int64{unit + 1}, table{{top}, {1}}, true}, {[]int64{1, top}, []int64{-unit - 1}, table{{-1}, {-top}}, true},
		{[]int64{most - 1, least + 2}, []int64{unit / 2}, table{{top}, {-top}}, false}, {[]int64{most}, []int64{unit / 2}, table{{top}}, true}, {[]int64{least + 1}, []int64{unit / 2}, table{{-top}}, true}, // most by 2 is rounded to 2^62
		{[]int64{most, least}, []int64{most, least}, table{{top, -top}, {-top, top}}, true}, {[]int64{most, least}, []int64{0, 0}, table{{0, 0}, {0, 0}}, false},
	} {
		got, over, err := mat.Outer(c.a, c.b)
		wantIs(t, call("Outer", c.a, c.b), got, over, err, c.want, c.over)
	}
}

// MA4: a product turned is that of both turned, the other way round, and as much was too great.
func TestMA4AProductTurned(t *testing.T) {
	r := rand.New(rand.NewSource(5))
	for _, size := range slices.Repeat(sizes(), 20) {
		a, b := matOf(randomRows(r, size[0], size[1])), matOf(randomRows(r, size[1], 1+r.Intn(6)))
		product, great, err := mat.Mul(a, b)
		if err != nil {
			t.Fatal(err)
		}
		first, _ := mat.Turn(b)
		second, _ := mat.Turn(a)
		want, _ := mat.Turn(product)
		got, over, err := mat.Mul(first, second)
		if got != want || over != great || err != nil {
			t.Errorf("%v times %v: %v, %v, %v; want %v, %v", first, second, got, over, err, want, great)
		}
	}
}

// A product with ones changes nothing but what is beyond MaxTop's size.
func TestMA2ProductsWithOnes(t *testing.T) {
	r := rand.New(rand.NewSource(6))
	for _, size := range slices.Repeat(sizes(), 10) {
		l := randomRows(r, size[0], size[1])
		want, great := sums(l, l, 0)
		before, _ := mat.Eye(size[0])
		behind, _ := mat.Eye(size[1])
		got, over, err := mat.Mul(before, matOf(l))
		wantIs(t, call("ones times", l), got, over, err, want, great)
		got, over, err = mat.Mul(matOf(l), behind)
		wantIs(t, call("times ones", l), got, over, err, want, great)
	}
}
