package ldl_test

import (
	"math/rand"
	"testing"

	"radome/ldl"
)

func TestLD2Far(t *testing.T) {
	l, d := lower(2, whole/2), scaled(unit, 4, 2) // the document's
	apart, units := lower(3), filled(unit, 3)
	all := scaled(whole, 1, 1, 1, 1, 1, 1, 1, 1, 1, 1, 1, 1, 1, 1, 1)
	for _, c := range []struct {
		l    table
		d, v []int64
		want int64
		over bool
	}{
		{l, d, scaled(unit, 6, 5), 11 * unit, false}, {l, d, scaled(unit, -6, -5), 11 * unit, false}, {l, d, scaled(unit, 2, -1), 3 * unit, false}, {l, d, parts(0, 0), 0, false},
		{lower(1), parts(unit), parts(unit), unit, false}, {lower(1), parts(unit), parts(-2 * unit), 4 * unit, false}, {lower(1), parts(3 * unit), parts(unit), 349525, false}, {lower(1), parts(1), parts(0), 0, false}, {lower(1), parts(top), parts(unit), 0, false},
		{lower(1), parts(unit), parts(1), 0, false}, {lower(1), parts(unit), parts(724), 0, false}, {lower(1), parts(unit), parts(725), 1, false}, {lower(1), parts(unit), parts(-725), 1, false}, {lower(1), parts(1), parts(725), unit, false}, // the product is rounded ahead of the quotient
		{lower(1), parts(1 << 21), parts(1024), 0, false}, {lower(1), parts(1 << 21), parts(1774), 2, false}, {lower(1), parts(1 << 21), parts(2290), 2, false}, {lower(1), parts(1 << 21), parts(-2710), 4, false}, // just a half: the even one
		{apart, filled(1<<21, 3), parts(1024, 1024, 1024), 0, false}, {apart, filled(1<<21, 3), parts(1774, 1774, 1774), 6, false}, // each is rounded
		{lower(6), filled(unit, 6), scaled(unit, 1, -2, 3, -4, 5, -6), 91 * unit, false}, {lower(6, all...), filled(unit, 6), scaled(unit, 1, 2, 3, 4, 5, 6), 6 * unit, false}, {lower(6, all...), filled(1, 6), filled(0, 6), 0, false},
		{lower(2, whole/2), filled(unit, 2), parts(3, 2*unit+2), 4 * unit, false}, {lower(2, whole/2), filled(unit, 2), parts(5, 2*unit+2), 4 * unit, false}, // one and a half, and two and a half, are 2

		{lower(1), parts(unit), parts(1<<41 - 1), 1<<62 - 1<<22, false}, {lower(1), parts(unit), parts(1 << 41), top, true}, {lower(1), parts(unit), parts(1 - 1<<41), 1<<62 - 1<<22, false}, {lower(1), parts(unit), parts(-1 << 41), top, true},
		{lower(1), parts(top), parts(1<<41 - 1), unit, false}, {lower(1), parts(top), parts(1 << 41), unit, true}, {lower(1), parts(top), parts(top), unit, true}, {lower(1), parts(top), parts(-top), unit, true}, {lower(1), parts(top), parts(most), unit, true}, {lower(1), parts(top), parts(least), unit, true}, {lower(1), parts(1), parts(least), top, true},
		{lower(1), parts(1), parts(1<<31 - 1), 1<<62 - 1<<32, false}, {lower(1), parts(1), parts(1 << 31), top, true}, {lower(1), parts(1), parts(-1 << 31), top, true},
		{apart, units, parts(1<<41-1, 1<<21-1, 1774), top, false}, {apart, units, parts(1<<41-1, 1<<21-1, 2048), top, true}, {apart, units, parts(1<<41-1, 1<<21, 0), top, true}, {apart, units, parts(1774, 1<<21-1, 1<<41-1), top, false}, {apart, units, parts(2048, 1<<21-1, 1<<41-1), top, true}, {apart, units, parts(0, 1<<21, 1<<41-1), top, true},
		{apart, parts(top, unit, unit), parts(1<<41, 0, unit), 2 * unit, true}, {apart, parts(unit, unit, top), parts(unit, 0, -1<<41), 2 * unit, true}, {apart, parts(1, unit, unit), parts(1<<31, 0, 0), top, true},
		{lower(2, top), filled(unit, 2), parts(whole, top), 1 << 40, false}, {lower(2, top), filled(unit, 2), parts(whole+1, top), 1<<40 + 1<<11, true}, {lower(2, -top), filled(unit, 2), parts(whole+1, -top), 1<<40 + 1<<11, true}, {lower(2, -top), filled(unit, 2), parts(-whole, top), 1 << 40, false}, // a sum alone
	} {
		wantFar(t, c.l, c.d, c.v, c.want, c.over)
		checkFar(t, c.l, c.d, c.v)
	}
}

func TestLD2FarEdges(t *testing.T) {
	for _, a := range edges() {
		for _, b := range edges() {
			checkFar(t, lower(2, whole), parts(unit, top), parts(a, b))
			checkFar(t, lower(2, -whole/2), parts(1<<31, 3), parts(a, b))
			if b >= 1 && b <= top {
				checkFar(t, lower(1), parts(b), parts(a))
				checkFar(t, lower(3, 1, -whole, 3*whole/2), parts(b, unit, b), parts(a, 1, a))
			}
			if a >= -top && a <= top {
				checkFar(t, lower(2, a), parts(unit, unit), parts(b, 1))
				checkFar(t, lower(2, a), parts(unit, unit), parts(1, b))
			}
		}
	}
}

func TestLD2FarOfRandomFactors(t *testing.T) {
	r := rand.New(rand.NewSource(8))
	var great [7]int
	for i := range 9000 {
		n := 1 + i%6
		l, d := randomFactors(r, n, 1+r.Intn(34), 1+r.Intn(61))
		if checkFar(t, l, d, vector(r, n, 1+r.Intn(63))) {
			great[n]++
		}
	}
	for n := 1; n <= 6; n++ {
		if great[n] < 150 || great[n] > 1350 {
			t.Errorf("%d of 1500 answers of %d parts are too great", great[n], n)
		}
	}
}

// Nothing is nearer than nought, too great or not.
func TestLD4FarIsNotBelowNought(t *testing.T) {
	r := rand.New(rand.NewSource(9))
	for i := range 9000 {
		n := 1 + i%6
		l, d := randomFactors(r, n, 1+r.Intn(61), 1+r.Intn(61))
		v := vector(r, n, 1+r.Intn(63))
		if far, over, err := ldl.Far(factorsOf(l, d), v); err != nil || far < 0 || far > top {
			t.Errorf("Far(%v, %v, %v): %v, %v, %v", l, d, v, far, over, err)
		}
		wantFar(t, l, d, filled(0, n), 0, false)
		wantSolve(t, l, d, filled(0, n), filled(0, n), false)
	}
}
