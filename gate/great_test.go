package gate_test

import (
	"slices"
	"testing"

	"radome/polar"
	"radome/predict"
)

// swapped is a state and a place with x and y taken for each other.
func swapped(s predict.State, p polar.Seen) (predict.State, polar.Seen) {
	a := s.P.A
	return known(s.X[3], s.X[0], a[21], a[3], a[0]), polar.Seen{X: p.Y, Y: p.X, XX: p.YY, YY: p.XX, XY: p.XY}
}

// wantGreat asks for just that number, which is not near enough, as something was too great; the same of Pairs and Nearest.
func wantGreat(t *testing.T, s predict.State, p polar.Seen, far int64) {
	t.Helper()
	for _, within := range mosts() {
		wantGate(t, s, p, within, far, false, true)
		wantPairs(t, []predict.State{s}, []polar.Seen{p}, within, true, nil)
		wantNearest(t, []predict.State{s}, []polar.Seen{p}, within, -1)
	}
	checkGate(t, s, p, unit)
}

// wantNotGreat asks for just that number, and that nothing was too great.
func wantNotGreat(t *testing.T, s predict.State, p polar.Seen, far int64) {
	t.Helper()
	for _, within := range mosts() {
		wantGate(t, s, p, within, far, far <= within, false)
		if far <= within {
			wantPairs(t, []predict.State{s}, []polar.Seen{p}, within, false, []int{0})
			wantNearest(t, []predict.State{s}, []polar.Seen{p}, within, 0)
		} else {
			wantPairs(t, []predict.State{s}, []polar.Seen{p}, within, false, nil)
			wantNearest(t, []predict.State{s}, []polar.Seen{p}, within, -1)
		}
	}
	checkGate(t, s, p, unit)
}

// How unsure both together are, alone: at no distance at all it is not near enough, as it is told.
func TestGA1TooGreatInHowUnsureBothAre(t *testing.T) {
	for _, x := range []int64{0, 1, 8, -724} {
		for _, n := range []int64{1, 2, unit, 1 << 61, top} {
			wantGreat(t, known(0, 0, top, 0, unit), polar.Seen{X: x, XX: n, YY: unit}, 0)
			wantNotGreat(t, known(0, 0, top-n, 0, unit), polar.Seen{X: x, XX: n, YY: unit}, 0)
			wantGreat(t, known(0, 0, n, 0, unit), polar.Seen{X: x, XX: top, YY: unit}, 0)
			wantNotGreat(t, known(0, 0, n, 0, unit), polar.Seen{X: x, XX: top - n, YY: unit}, 0)
			wantGreat(t, known(0, 0, unit, 0, n), polar.Seen{Y: x, XX: unit, YY: top}, 0)
			wantNotGreat(t, known(0, 0, unit, 0, n), polar.Seen{Y: x, XX: unit, YY: top - n}, 0)
			wantGreat(t, known(0, 0, top, 0, n), polar.Seen{X: x, Y: x, XX: n, YY: top}, 0)
		}
	}
	// One metre by y, which is nothing of what is too great.
	wantGreat(t, known(0, 0, top, 0, unit), polar.Seen{Y: unit, XX: 1}, unit)
	wantNotGreat(t, known(0, 0, top-1, 0, unit), polar.Seen{Y: unit, XX: 1}, unit)
	wantGreat(t, known(0, 0, unit, 0, top), polar.Seen{X: unit, YY: 1}, unit)
}

// V alone: how far it is by y is nearly all made up for by how far it is by x.
func TestGA1TooGreatInVAlone(t *testing.T) {
	const a = int64(1)<<41 - 1
	for _, sign := range []int64{1, -1} {
		s, p := known(0, 0, unit, sign*a, top), exact(a, sign*top)
		wantNotGreat(t, s, p, top)
		s.X[3] = -sign
		wantGreat(t, s, p, top)
		s, p = known(0, 0, unit, sign*a, top), exact(-a, -sign*top)
		wantNotGreat(t, s, p, top)
		s.X[3] = sign
		wantGreat(t, s, p, top)
	}
}

// How far that is, alone, though the number is small, or is none that could be near enough.
func TestGA1TooGreatInFarAlone(t *testing.T) {
	for _, c := range []struct {
		xx, x, far int64
		great      bool
	}{
		{top, 1 << 41, unit, true}, {top, -1 << 41, unit, true}, {top, 1<<41 - 1, unit, false}, {top, 1 - 1<<41, unit, false},
		{top, top, unit, true}, {top, -top, unit, true}, {1 << 61, 1 << 41, 2 * unit, true}, {1 << 52, 1 << 41, widest, true}, {1<<52 - 1<<12, 1<<41 - 1, widest, false}, {1 << 51, 1 << 41, 2 * widest, true},
		{unit, 1 << 41, top, true}, {unit, 1<<41 - 1, 1<<62 - 1<<22, false}, {1, 1 << 31, top, true}, {1, 1<<31 - 1, 1<<62 - 1<<32, false}, {1, top, top, true},
	} {
		want := wantNotGreat
		if c.great {
			want = wantGreat
		}
		want(t, known(0, 0, c.xx, 0, unit), exact(c.x, 0), c.far)
		want(t, sure(0, 0), polar.Seen{X: c.x, XX: c.xx, YY: 1}, c.far)
		want(t, known(-c.x/2, 0, c.xx, 0, unit), exact(c.x-c.x/2, 0), c.far)
		want(t, known(0, 0, unit, 0, c.xx), exact(0, c.x), c.far)
		want(t, sure(0, 0), polar.Seen{Y: c.x, XX: 1, YY: c.xx}, c.far)
	}
	// Both parts together alone.
	wantGreat(t, sure(0, 0), spot(1<<41-1, 1<<31), top)
	wantGreat(t, sure(0, 0), spot(1<<41-1, 1<<21), top)
	wantNotGreat(t, sure(0, 0), spot(1<<41-1, 1<<20), 1<<62-1<<22+1<<20)
}

// With x and y taken for each other.
func TestGA1TooGreatByXAsByY(t *testing.T) {
	for _, c := range []pair{
		{known(0, 0, top, 0, unit), polar.Seen{XX: 1}}, {sure(0, -1), polar.Seen{Y: top, XX: unit, YY: unit}}, {sure(top, 0), polar.Seen{X: -top, XX: top, YY: 5}},
		{known(0, 0, top, 0, top), exact(1<<41, 0)}, {known(0, 0, 1<<61, 0, 1<<61), exact(0, 1<<41)},
	} {
		a := checkGate(t, c.s, c.p, widest)
		b := c
		b.s, b.p = swapped(c.s, c.p)
		if other := checkGate(t, b.s, b.p, widest); other != a || !a.over || !a.ok {
			t.Errorf("%v: %v, swapped %v", c, a, other)
		}
	}
}

// Just one pair is too great, that of any state with any place: it is told, that pair is not near enough, and all others are.
func TestGA2AndGA3TooGreatInOnePairAlone(t *testing.T) {
	for many := 1; many <= 4; many++ {
		for count := 1; count <= 4; count++ {
			for i := range many {
				for k := range count {
					l, p := slices.Repeat([]predict.State{known(0, 0, unit, 0, unit)}, many), slices.Repeat([]polar.Seen{exact(724, 0)}, count)
					want, first := slices.Repeat([][]int{listed(0, count)}, many), make([]int, many)
					wantPairs(t, l, p, 1, false, want...)
					l[i].P.A[0], p[k].XX = top-unit, unit
					wantPairs(t, l, p, 1, false, want...)
					wantNearest(t, l, p, 1, first...)
					p[k].XX++ // now both together are beyond MaxTop
					want[i] = slices.Delete(listed(0, count), k, k+1)
					first[i] = append(slices.Clone(want[i]), -1)[0]
					wantPairs(t, l, p, 1, true, want...)
					wantNearest(t, l, p, 1, first...)
					checkAll(t, l, p, widest)
				}
			}
		}
	}
}

// What is too great by its number is the least far: it is not the nearest. Beside a pair of which nothing can be told, it is told too.
func TestGA3TheLeastFarIsTooGreat(t *testing.T) {
	l := []predict.State{known(0, 0, unit, 0, unit), sure(0, 0)}
	p := []polar.Seen{exact(3*unit, 0), {XX: top, YY: unit}, spot(2*unit, 0), exact(0, 0), {X: unit / 8, XX: top, YY: unit}}
	wantPairs(t, l, p, widest, true, []int{0, 2, 3}, []int{1, 2, 4})
	wantNearest(t, l, p, widest, 3, 1)
	wantNearest(t, l, p[:3], widest, 2, 1)
	wantNearest(t, l[:1], p[4:], widest, -1)
	wantPairs(t, l[:1], p[4:], widest, true, nil)
	wantPairs(t, l[1:], p, widest, false, []int{1, 2, 4})
	// All of them.
	wantPairs(t, l[:1], slices.Repeat(p[1:2], 64), 1, true, nil)
	wantPairs(t, slices.Repeat(l[:1], 64), slices.Repeat(p[1:2], 64), widest, true, make([][]int, 64)...)
	wantNearest(t, slices.Repeat(l[:1], 64), slices.Repeat(p[1:2], 64), widest, slices.Repeat([]int{-1}, 64)...)
}

// All numbers as far as they go.
func TestGA1NumbersAsFarAsTheyGo(t *testing.T) {
	numbers := []int64{0, 1, -1, unit, -unit, 1 << 41, 1<<41 - 1, 1 << 61, -1 << 61, top - 1, 1 - top, top, -top}
	count := map[bool]int{}
	for _, a := range numbers {
		for _, b := range numbers {
			for _, d := range []int64{0, 1, unit, 1 << 61, top} {
				for _, within := range []int64{1, widest} {
					for _, c := range []pair{
						{known(a, b, d, 0, top), exact(b, a)}, {known(a, b, d, 0, d), spot(-b, a)}, {sure(a, b), polar.Seen{X: -a, Y: a, XX: d, YY: d}},
						{known(0, a, unit, b, top), polar.Seen{X: a, Y: b, XX: d, YY: d, XY: -b}}, {known(0, 0, top, a, top), polar.Seen{X: a, Y: b, XX: d, YY: top, XY: b}},
					} {
						got := checkGate(t, c.s, c.p, within)
						count[got.ok && got.over]++
					}
				}
			}
		}
	}
	if count[true] < 1000 || count[false] < 1000 {
		t.Errorf("so many too great: %v", count)
	}
}
