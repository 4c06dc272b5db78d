package mix_test

import (
	"math/rand"
	"testing"
)

// wantGreat asks that just these steps were too great, and for what MX2 says; so of the states in the other order.
func wantGreat(t *testing.T, what string, a, b state, chance int64, steps which) {
	t.Helper()
	w := checkJoin(t, []state{a, b}, []int64{chance, one - chance})
	other := checkJoin(t, []state{b, a}, []int64{one - chance, chance})
	if w.great != steps || other.great != steps {
		t.Errorf("%s: %v and %v were too great, not %v", what, w.great, other.great, steps)
	}
}

// wantTold asks for just that state of two, and whether something was too great; so of them in the other order.
func wantTold(t *testing.T, a, b state, chance int64, want state, great bool) {
	t.Helper()
	wantJoin(t, []state{a, b}, []int64{chance, one - chance}, want, great)
	wantJoin(t, []state{b, a}, []int64{one - chance, chance}, want, great)
}

// apart are two states that are so far from each other's middle, by one part.
func apart(i int, by int64) (a, b state) {
	a.x[i], b.x[i] = by, -by
	return a, b
}

// d times d alone: 2^41 last bits away is too great, and its square stays MaxTop.
func TestMX2TooGreatInDTimesDAlone(t *testing.T) {
	for i := range 6 {
		a, b := apart(i, 1<<41)
		wantGreat(t, call("d times d", i), a, b, half, those(stepOuter))
		wantTold(t, a, b, half, state{p: both(table{}, place{i, i, top})}, true)
		a, b = apart(i, 1<<41-1)
		wantGreat(t, call("d times d, just not", i), a, b, half, which{})
		wantTold(t, a, b, half, state{p: both(table{}, place{i, i, 1<<62 - 1<<22})}, false)
		for j := range 6 {
			if i == j {
				continue
			}
			for _, sign := range []int64{1, -1} {
				a, b = apart(i, 1<<41)
				a.x[j], b.x[j] = sign<<41, -sign<<41
				wantGreat(t, call("d times d", i, j), a, b, half, those(stepOuter))
				wantTold(t, a, b, half, state{p: both(table{}, place{i, i, top}, place{j, j, top}, place{i, j, sign * top})}, true)
				a.x[j], b.x[j] = sign*unit, -sign*unit
				wantTold(t, a, b, half, state{p: both(table{}, place{i, i, top}, place{j, j, unit}, place{i, j, sign << 41})}, true)
			}
		}
	}
}

// The difference is too great, and so is its square: what is told of another part shows that the difference was bounded ahead of being taken.
func TestMX2TooGreatInD(t *testing.T) {
	for i := range 6 {
		for j := range 6 {
			if i == j {
				continue
			}
			for _, sign := range []int64{1, -1} {
				a, b := apart(i, -sign*top)
				b.x[j] = unit / 2
				wantGreat(t, call("d", i, j), a, b, one-1, those(stepAway, stepOuter))
				want := state{p: both(table{}, place{i, i, 1<<46 - 1<<16 + 1<<32}, place{i, j, sign << 31})}
				want.x[i] = sign * (1<<33 - top)
				wantTold(t, a, b, one-1, want, true)
			}
		}
	}
	// Of two that are MaxTop's size apart it is just not too great, of two that are one more it is: here by one for sure, so that nothing else is seen of it.
	for i := range 6 {
		for _, c := range []struct {
			a, b  int64
			great bool
		}{{0, top, false}, {0, -top, false}, {-1, top, true}, {1, -top, true}, {1, top, false}, {1 << 61, -1 << 61, true}, {1 << 61, 1 - 1<<61, false}, {top, -top, true}} {
			a, b := state{}, state{}
			a.x[i], b.x[i] = c.a, c.b
			steps := those(stepOuter)
			steps[stepAway] = c.great
			wantGreat(t, call("d", i, c), a, b, one, steps)
			wantTold(t, a, b, one, a, true)
		}
	}
}

// A state that has a chance of 0 is looked at, too: what is too great of it is told, though nothing of it is left.
func TestMX2TooGreatByAChanceOfNought(t *testing.T) {
	for i := range 6 {
		a, b := state{p: onDiagonal(1, 2, 3, 4, 5, 6)}, state{p: onDiagonal(7, 7, 7, 7, 7, 7)}
		b.x[i] = 1 << 41
		wantTold(t, a, b, one, a, true)
		b.x[i] = 1<<41 - 1
		wantTold(t, a, b, one, a, false)
		b.x[i] = 1 << 10
		b.p = both(b.p, place{i, i, top})
		wantTold(t, a, b, one, a, true)
		b.p = both(b.p, place{i, i, top - 1})
		wantTold(t, a, b, one, a, false)
	}
	// One of four, at each place.
	for k := range 4 {
		l := make([]state, 4)
		l[k].x[2] = -1 << 41
		for place := range 4 {
			if place != k {
				wantJoin(t, l, alone(place, 4), state{}, true)
			}
		}
	}
}

// The sum alone: P is MaxTop, and one is added by what is away.
func TestMX2TooGreatInTheSumAlone(t *testing.T) {
	for i := range 6 {
		for _, c := range []struct {
			p, d, want int64
			great      bool
		}{
			{top, 1 << 10, top, true}, {top - 1, 1 << 10, top, false}, {top, 724, top, false}, {top, 725, top, true}, {top, 0, top, false}, {top - 2, 1 << 10, top - 1, false}, {top, 1 << 40, top, true}, {1<<62 - 1<<60, 1 << 40, top, true}, {top - 1<<60, 1 << 40, top, false},
		} {
			steps := which{}
			steps[stepAdd] = c.great
			a, b := apart(i, c.d)
			a.p = both(a.p, place{i, i, c.p})
			b.p = a.p
			wantGreat(t, call("sum", i, c), a, b, half, steps)
			wantTold(t, a, b, half, state{p: both(table{}, place{i, i, c.want})}, c.great)
		}
	}
}

// And beside the diagonal, on both sides.
func TestMX2TooGreatInTheSumAloneBesideTheDiagonal(t *testing.T) {
	for i := range 6 {
		for j := range 6 {
			for _, sign := range []int64{1, -1} {
				for _, c := range []struct {
					p, want int64
					great   bool
				}{{top, top, true}, {top - 1, top, false}, {top - 2, top - 1, false}, {-top, 1 - top, false}} {
					if i == j {
						continue
					}
					steps := which{}
					steps[stepAdd] = c.great
					a, b := apart(i, 1<<10)
					a.x[j], b.x[j] = sign<<10, -sign<<10
					a.p = both(a.p, place{i, j, sign * c.p})
					b.p = a.p
					wantGreat(t, call("sum", i, j, c), a, b, half, steps)
					wantTold(t, a, b, half, state{p: both(table{}, place{i, i, 1}, place{j, j, 1}, place{i, j, sign * c.want})}, c.great)
				}
			}
		}
	}
}

// One of the states alone is too great: it is bounded ahead of being summed with the others.
func TestMX2OneOfTheStatesIsTooGreat(t *testing.T) {
	for k := range 4 {
		l, chances := make([]state, 4), []int64{quarter, quarter, quarter, quarter}
		for i := range l {
			l[i].x[1] = -1 << 10
		}
		l[k].x[1] = 3 << 10
		l[k].p = both(table{}, place{1, 1, top - 8}) // 9 are added, and 1 to each other one: the sum by quarters is just half above 2^60
		want := state{p: both(table{}, place{1, 1, 1 << 60})}
		wantJoin(t, l, chances, want, true)
		l[k].p = both(table{}, place{1, 1, top - 9})
		wantJoin(t, l, chances, want, false)
		l[k].p = both(table{}, place{1, 1, top})
		wantJoin(t, l, chances, want, true)
	}
}

// All of MaxTop's size on both sides. Neither X nor the sum of all nor the middle is ever too great: none is above all of those it is made of.
func TestMX2NumbersAsFarAsTheyGo(t *testing.T) {
	numbers := []int64{0, 1, -1, unit, -unit, 1 << 41, -1 << 41, 1 << 61, -1 << 61, top - 1, 1 - top, top, -top}
	for _, n := range numbers {
		for _, m := range numbers {
			for _, d := range []int64{0, 1, unit, top} {
				p, q := filled(n), filled(m)
				for i := range 6 {
					p, q = both(p, place{i, i, d}), both(q, place{i, i, top - d})
				}
				l := []state{{allOf(n), p}, {allOf(m), q}, {allOf(-n), p}, {vector{n, m, -n, -m, m, n}, q}}
				for _, chances := range [][]int64{alone(0, 4), alone(3, 4), {half, half, 0, 0}, {half, 0, half, 0}, {quarter, quarter, quarter, quarter}, {1, 0, one - 2, 1}} {
					if w := checkJoin(t, l, chances); w.great[stepX] || w.great[stepSum] || w.great[stepEven] {
						t.Errorf("%v, %v: %v", l, chances, w.great)
					}
				}
			}
		}
	}
}

// By chance: each step that may be too great alone is so often, and the others never are.
func TestMX2TooGreatByChance(t *testing.T) {
	r := rand.New(rand.NewSource(13))
	count := map[which]int{}
	for i := range 6000 {
		l := make([]state, 1+i%4)
		bits, bitsP := 38+r.Intn(6), 1+r.Intn(62)
		if r.Intn(3) == 0 {
			bits = 62
		}
		for k := range l {
			l[k] = state{randomState(r, bits).x, randomState(r, bitsP).p}
			if i%3 == 0 { // on a diagonal of noughts nothing is added to what is too great itself
				l[k].p = onDiagonal(0, 0, 0, 0, 0, 0)
			}
		}
		w := checkJoin(t, l, randomChances(r, len(l)))
		count[w.great]++
		if w.great[stepX] || w.great[stepSum] || w.great[stepEven] || w.great[stepAway] && !w.great[stepOuter] {
			t.Errorf("%v: %v", l, w.great)
		}
	}
	for _, steps := range []which{{}, those(stepOuter), those(stepAdd), those(stepOuter, stepAdd), those(stepAway, stepOuter, stepAdd)} {
		if count[steps] < 30 {
			t.Errorf("just %d with %v too great", count[steps], steps)
		}
	}
}

// The Join by the chances themselves is no part of All: here that one is 2^41 away from one of the states, all that All asks for are a little less.
func TestMX3IsNotTooGreatByTheChancesThemselves(t *testing.T) {
	chances := []int64{452662345, 169720131, 451359348}
	rows := [][]int64{{179997735, 235190336, 658553753}, {179997739, 235190334, 658553751}, {179997739, 235190334, 658553751}}
	for i := range 6 {
		l := make([]state, 3)
		l[1].x[i], l[2].x[i] = 2107242130695, -1010703876865
		if w := checkJoin(t, l, chances); w.great != those(stepOuter) {
			t.Errorf("Join(%v, %v): %v", l, chances, w.great)
		}
		if w := checkAll(t, l, chances, rows); w.great != (which{}) {
			t.Errorf("All(%v, %v, %v): %v", l, chances, rows, w.great)
		}
	}
}

// What is too great at just one place is told of all, whichever place it is.
func TestMX3TooGreatAtJustOnePlace(t *testing.T) {
	for count := 2; count <= 4; count++ {
		for near := range count {
			for far := range count {
				if near == far {
					continue
				}
				// Both become far, so that nothing comes to near: for sure there, it is twice as far from the other one as the middle is.
				l := make([]state, count)
				chances := make([]int64, count)
				l[near].x[3], l[far].x[3] = 1<<40, -1<<40
				chances[near], chances[far] = half, half
				rows := sameRows(alone(far, count), count)
				want := make([]state, count)
				want[far] = state{p: both(table{}, place{3, 3, 1 << 60})}
				want[near] = l[near]
				wantAll(t, l, chances, rows, want, alone(far, count), true)
				var w way
				for to := range count {
					w.great = which{}
					w.join(l, reckonedShares(chances, rows, to))
					if w.great[stepOuter] != (to == near) {
						t.Errorf("%d, %d: %v at %d", near, far, w.great, to)
					}
				}
				l[near].x[3], l[far].x[3] = 1<<40-2, 2-1<<40
				want[near], want[far] = l[near], state{p: both(table{}, place{3, 3, 1<<60 - 1<<22})}
				wantAll(t, l, chances, rows, want, alone(far, count), false)
				checkAll(t, l, chances, rows)
			}
		}
	}
}
