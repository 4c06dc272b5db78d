package mat_test

import (
	"math/rand"
	"slices"
	"testing"

	"radome/mat"
)

func TestMA2Add(t *testing.T) {
	for _, c := range []struct {
		a, b, want table
		over       bool
	}{
		{table{{1, 2}, {3, 4}}, table{{10, 20}, {30, 40}}, table{{11, 22}, {33, 44}}, false},
		{table{{0}}, table{{0}}, table{{0}}, false}, {table{{5}}, table{{-5}}, table{{0}}, false},
		{table{{1, -2, 3, -4, 5, -6}}, table{{10, 20, 30, 40, 50, 60}}, table{{11, 18, 33, 36, 55, 54}}, false},
		{table{{1}, {-2}, {3}, {-4}, {5}, {-6}}, table{{10}, {20}, {30}, {40}, {50}, {60}}, table{{11}, {18}, {33}, {36}, {55}, {54}}, false},
		{filled(7, 6, 6), filled(-9, 6, 6), filled(-2, 6, 6), false},
		{table{{top, top - 1}}, table{{0, 1}}, table{{top, top}}, false}, {table{{top, 1}}, table{{1, 1}}, table{{top, 2}}, true},
		{table{{-top, 1 - top}}, table{{0, -1}}, table{{-top, -top}}, false}, {table{{1, -top}}, table{{1, -1}}, table{{2, -top}}, true},
		{table{{top, -top}}, table{{-top, top}}, table{{0, 0}}, false}, {table{{top}, {-top}}, table{{top}, {-top}}, table{{top}, {-top}}, true},
		{table{{most, least}}, table{{most, least}}, table{{top, -top}}, true}, {table{{most, least}}, table{{least, most}}, table{{-1, -1}}, false},
		{table{{most}}, table{{0}}, table{{top}}, true}, {table{{least}}, table{{0}}, table{{-top}}, true}, {table{{most, least}}, table{{-top - 1, top + 2}}, table{{top, -top}}, false},
	} {
		got, over, err := mat.Add(matOf(c.a), matOf(c.b))
		wantIs(t, call("Add", c.a, c.b), got, over, err, c.want, c.over)
	}
}

func TestMA2Sub(t *testing.T) {
	for _, c := range []struct {
		a, b, want table
		over       bool
	}{
		{table{{11, 22}, {33, 44}}, table{{10, 20}, {30, 40}}, table{{1, 2}, {3, 4}}, false},
		{table{{0}}, table{{0}}, table{{0}}, false}, {table{{5}}, table{{-5}}, table{{10}}, false},
		{table{{11, 18, 33, 36, 55, 54}}, table{{10, 20, 30, 40, 50, 60}}, table{{1, -2, 3, -4, 5, -6}}, false},
		{table{{11}, {18}, {33}, {36}, {55}, {54}}, table{{10}, {20}, {30}, {40}, {50}, {60}}, table{{1}, {-2}, {3}, {-4}, {5}, {-6}}, false},
		{filled(7, 6, 6), filled(-9, 6, 6), filled(16, 6, 6), false},
		{table{{top, top - 1}}, table{{0, -1}}, table{{top, top}}, false}, {table{{top, 1}}, table{{-1, 1}}, table{{top, 0}}, true},
		{table{{-top, 1 - top, 0}}, table{{0, 1, top}}, table{{-top, -top, -top}}, false}, {table{{1, -top}}, table{{1, 1}}, table{{0, -top}}, true},
		{table{{top, -top}}, table{{top, -top}}, table{{0, 0}}, false}, {table{{top}, {-top}}, table{{-top}, {top}}, table{{top}, {-top}}, true},
		{table{{most, least}}, table{{most, least}}, table{{0, 0}}, false}, {table{{most, least}}, table{{least, most}}, table{{top, -top}}, true},
		{table{{0}}, table{{least}}, table{{top}}, true}, {table{{-top - 2}}, table{{least}}, table{{top}}, false}, {table{{-top - 1}}, table{{least}}, table{{top}}, true},
	} {
		got, over, err := mat.Sub(matOf(c.a), matOf(c.b))
		wantIs(t, call("Sub", c.a, c.b), got, over, err, c.want, c.over)
	}
}

func TestMA2SumsOfEdgesAndRandomNumbers(t *testing.T) {
	for _, a := range edges() {
		for _, b := range edges() {
			checkAdd(t, table{{a, b}, {1, a}}, table{{b, 1}, {a, a}})
			checkSub(t, table{{a, b}, {1, a}}, table{{b, 1}, {a, a}})
		}
	}
	r := rand.New(rand.NewSource(3))
	for _, size := range slices.Repeat(sizes(), 60) {
		a, b := randomRows(r, size[0], size[1]), randomRows(r, size[0], size[1])
		checkAdd(t, a, b)
		checkSub(t, a, b)
	}
}

// One number that is too great is told wherever it stands, and the others are as they are.
func TestMA2OneSumIsTooGreat(t *testing.T) {
	for i := range 6 {
		for j := range 6 {
			a := filled(1, 6, 6)
			a[i][j] = top
			checkAdd(t, a, filled(1, 6, 6))
			checkSub(t, a, filled(-1, 6, 6))
			got, over, err := mat.Add(matOf(a), matOf(filled(1, 6, 6)))
			want := filled(2, 6, 6)
			want[i][j] = top
			wantIs(t, call("Add", a), got, over, err, want, true)
		}
	}
}
