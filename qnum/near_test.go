package qnum_test

import (
	"math/rand"
	"slices"
	"testing"

	"radome/qnum"
)

// wantHalf asks that n times by is no farther from exact than half of by, and that n is even where it is just as far.
func wantHalf(t *testing.T, what string, n int64, over bool, err error, exact, by int64) {
	t.Helper()
	off := 2 * (n*by - exact)
	if by < 0 {
		off, by = -off, -by
	}
	if over || err != nil || off > by || off < -by {
		t.Errorf("%s: %d, %v, %v: more than half a last bit off", what, n, over, err)
	}
	if (off == by || off == -by) && n%2 != 0 {
		t.Errorf("%s: %d is odd, and the even one is as near", what, n)
	}
}

// All small numbers, held against the exact answers by whole numbers alone.
func TestQN4HalfALastBit(t *testing.T) {
	for bits := range 6 {
		one := int64(1) << bits
		for a := int64(-70); a <= 70; a++ {
			for b := int64(-20); b <= 20; b++ {
				n, over, err := qnum.Mul(a, b, bits)
				wantHalf(t, call("Mul", a, b, bits), n, over, err, a*b, one)
				n, over, err = qnum.Dot([]int64{a, b, 3}, []int64{b, b, -a}, bits)
				wantHalf(t, call("Dot", a, b, bits), n, over, err, a*b+b*b-3*a, one)
				if b != 0 {
					n, over, err = qnum.Div(a, b, bits)
					wantHalf(t, call("Div", a, b, bits), n, over, err, a*one, b)
				}
				n, over = qnum.Add(a, b)
				wantHalf(t, call("Add", a, b), n, over, nil, a+b, 1)
				n, over = qnum.Sub(a, b)
				wantHalf(t, call("Sub", a, b), n, over, nil, a-b, 1)
			}
			for _, from := range []int{0, 20, 57} {
				n, over, err := qnum.Move(a, from+bits, from)
				wantHalf(t, call("Move", a, from+bits, from), n, over, err, a, one)
				n, over, err = qnum.Move(a, from, from+bits)
				wantHalf(t, call("Move", a, from, from+bits), n, over, err, a*one, 1)
			}
		}
	}
}

// A root is cut down: it is the exact one less what is behind the last bit.
func TestQN4RootIsWithinALastBit(t *testing.T) {
	for bits := range 10 {
		for a := range int64(3000) {
			n, err := qnum.Root(a, bits)
			if exact := a << bits; err != nil || n < 0 || n*n > exact || (n+1)*(n+1) <= exact {
				t.Errorf("Root(%d, %d): %d, %v", a, bits, n, err)
			}
		}
	}
}

// Rounding and bounding are the same on both sides of 0, and in both orders.
func TestQN4BothSidesAreAlike(t *testing.T) {
	pairs(3000, func(a, b int64) {
		if a == least || b == least {
			return
		}
		for _, bits := range []int{0, 1, 20, 62} {
			n, over, _ := qnum.Mul(a, b, bits)
			m, great, _ := qnum.Mul(-b, a, bits)
			if n != -m || over != great {
				t.Errorf("Mul(%d, %d, %d): %d, and %d the other way", a, b, bits, n, m)
			}
			n, over, err := qnum.Div(a, b, bits)
			m, great, other := qnum.Div(a, -b, bits)
			if n != -m || over != great || err != other {
				t.Errorf("Div(%d, %d, %d): %d, and %d the other way", a, b, bits, n, m)
			}
		}
	})
}

// answers is what all calls answer of two numbers and two lists.
func answers(a, b int64, l, m []int64, bits, to int) []any {
	var out []any
	add := func(l ...any) { out = append(out, l...) }
	both := func(n int64, over bool) { add(n, over) }
	three := func(n int64, over bool, err error) { add(n, over, err) }
	both(qnum.Add(a, b))
	both(qnum.Sub(a, b))
	both(qnum.Clamp(a))
	three(qnum.Mul(a, b, bits))
	three(qnum.Div(a, b, bits))
	three(qnum.Dot(l, m, bits))
	three(qnum.Move(a, bits, to))
	n, err := qnum.Root(a, bits)
	add(n, err)
	return out
}

// P9: every call ends, changes nothing of what it is given, spare room too, and answers the same each time.
func TestP9TotalAndAlone(t *testing.T) {
	r := rand.New(rand.NewSource(4))
	bits := func() int {
		if r.Intn(8) == 0 {
			return wrong[r.Intn(len(wrong))]
		}
		return r.Intn(63)
	}
	pairs(3000, func(a, b int64) {
		room := make([]int64, 140)
		for i := range room {
			room[i] = random(r)
		}
		from, long := r.Intn(70), r.Intn(67)
		l, m := room[from:from+long], room[from/2:from/2+long] // they share memory
		kept := slices.Clone(room)
		places, to := bits(), bits()
		first := answers(a, b, l, m, places, to)
		if second := answers(a, b, l, m, places, to); !slices.Equal(first, second) {
			t.Errorf("%d and %d: two answers", a, b)
		}
		if !slices.Equal(room, kept) {
			t.Errorf("%d and %d: a list was changed", a, b)
		}
		if len(l) <= 64 && places >= 0 && places <= 62 {
			checkDot(t, l, m, places)
			checkDot(t, l, l, places)
		}
	})
}
