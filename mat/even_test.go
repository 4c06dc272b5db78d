package mat_test

import (
	"math/rand"
	"testing"

	"radome/mat"
)

func TestMA3Even(t *testing.T) {
	for _, c := range []struct {
		m, want table
		over    bool
	}{
		{table{{1, 2}, {4, 5}}, table{{1, 3}, {3, 5}}, false}, {table{{0, 10, 20}, {30, 0, 40}, {50, 60, 0}}, table{{0, 20, 35}, {20, 0, 50}, {35, 50, 0}}, false},
		{table{{0}}, table{{0}}, false}, {table{{7}}, table{{7}}, false}, {table{{-7}}, table{{-7}}, false}, {table{{top}}, table{{top}}, false}, {table{{-top}}, table{{-top}}, false},
		{filled(3, 6, 6), filled(3, 6, 6), false}, {filled(-top, 6, 6), filled(-top, 6, 6), false}, {filled(top, 6, 6), filled(top, 6, 6), false},
		{table{{1, 1}, {0, -1}}, table{{1, 0}, {0, -1}}, false}, {table{{1, 2}, {1, 3}}, table{{1, 2}, {2, 3}}, false}, {table{{0, 2}, {3, 0}}, table{{0, 2}, {2, 0}}, false}, {table{{0, 3}, {4, 0}}, table{{0, 4}, {4, 0}}, false}, // just a half: the even one
		{table{{0, -1}, {0, 0}}, table{{0, 0}, {0, 0}}, false}, {table{{0, -2}, {-1, 0}}, table{{0, -2}, {-2, 0}}, false}, {table{{0, -3}, {-2, 0}}, table{{0, -2}, {-2, 0}}, false}, {table{{0, 2}, {-3, 0}}, table{{0, 0}, {0, 0}}, false}, {table{{0, -2}, {5, 0}}, table{{0, 2}, {2, 0}}, false},
		{table{{0, top}, {-top, 0}}, table{{0, 0}, {0, 0}}, false}, {table{{0, top}, {top - 1, 0}}, table{{0, top - 1}, {top - 1, 0}}, false}, {table{{0, -top}, {1 - top, 0}}, table{{0, 1 - top}, {1 - top, 0}}, false},
		{table{{0, top + 1}, {top, 0}}, table{{0, top}, {top, 0}}, true}, {table{{0, -top - 1}, {-top, 0}}, table{{0, -top}, {-top, 0}}, true}, // rounded to 2^62, the even one
		{table{{0, top + 1}, {top - 1, 0}}, table{{0, top}, {top, 0}}, false}, {table{{0, -top - 1}, {1 - top, 0}}, table{{0, -top}, {-top, 0}}, false}, {table{{0, top + 2}, {top, 0}}, table{{0, top}, {top, 0}}, true},
		{table{{top + 1}}, table{{top}}, true}, {table{{-top - 1}}, table{{-top}}, true}, {table{{0, 0}, {0, top + 1}}, table{{0, 0}, {0, top}}, true},
		{table{{most}}, table{{top}}, true}, {table{{least}}, table{{-top}}, true}, {table{{1, most}, {least, 1}}, table{{1, 0}, {0, 1}}, false}, {table{{1, most}, {-1, 1}}, table{{1, top}, {top, 1}}, false}, {table{{1, least}, {2, 1}}, table{{1, -top}, {-top, 1}}, false}, {table{{1, least}, {0, 1}}, table{{1, -top}, {-top, 1}}, true},
		{filled(most, 6, 6), filled(top, 6, 6), true}, {filled(least, 6, 6), filled(-top, 6, 6), true},
	} {
		got, over, err := mat.Even(matOf(c.m))
		wantIs(t, call("Even", c.m), got, over, err, c.want, c.over)
	}
}

func TestMA3EvenOfEdgesAndRandomNumbers(t *testing.T) {
	for _, a := range edges() {
		checkEven(t, table{{a}})
		for _, b := range edges() {
			checkEven(t, table{{1, a}, {b, 2}})
			checkEven(t, table{{a, 1, a}, {b, b, 0}, {b, a, 1}})
		}
	}
	r := rand.New(rand.NewSource(7))
	for i := range 3000 {
		checkEven(t, randomRows(r, 1+i%6, 1+i%6))
	}
}

// MA4: an even one is even: it is the same turned, and made even once more it is itself.
func TestMA4AnEvenOneIsEven(t *testing.T) {
	r := rand.New(rand.NewSource(8))
	for i := range 3000 {
		l := randomRows(r, 1+i%6, 1+i%6)
		even, _, err := mat.Even(matOf(l))
		if err != nil {
			t.Fatal(err)
		}
		if other, err := mat.Turn(even); other != even || err != nil {
			t.Errorf("Even(%v): %v, turned %v, %v", l, even, other, err)
		}
		if again, over, err := mat.Even(even); again != even || over || err != nil {
			t.Errorf("Even(%v): %v, once more %v, %v, %v", l, even, again, over, err)
		}
		middle, great, _ := mat.Even(matOf(turned(l)))
		if _, over, _ := mat.Even(matOf(l)); middle != even || great != over {
			t.Errorf("Even(%v): %v, of it turned %v", l, even, middle)
		}
	}
}
