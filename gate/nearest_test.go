package gate_test

import (
	"math/rand"
	"slices"
	"testing"

	"radome/gate"
	"radome/polar"
	"radome/predict"
)

func TestGA3OfAnOrdinaryCase(t *testing.T) {
	for _, c := range []struct {
		within int64
		want   []int
	}{
		{widest, []int{2, 5, 3, 2}}, {1 << 24, []int{2, 5, 3, 2}}, {12240989, []int{2, 5, 3, 2}}, {12240988, []int{2, 5, -1, 2}},
		{1398100, []int{2, 5, -1, 2}}, {1398099, []int{2, 5, -1, -1}}, {1338760, []int{2, 5, -1, -1}}, {1338759, []int{2, -1, -1, -1}},
		{78994, []int{2, -1, -1, -1}}, {78993, []int{-1, -1, -1, -1}}, {1, []int{-1, -1, -1, -1}},
	} {
		wantNearest(t, states(), spots(), c.within, c.want...)
	}
	// Without its nearest, the next one is.
	wantNearest(t, states(), slices.Delete(spots(), 2, 3), widest, 1, 4, 2, 0)
	wantNearest(t, states(), spots()[3:], widest, 1, 2, 0, 1)
	for i, s := range states() {
		wantNearest(t, []predict.State{s}, spots(), widest, []int{2, 5, 3, 2}[i])
	}
}

// The least far stands at each place, among many that are farther, or nearer to another one.
func TestGA3TheNearestAtEachPlace(t *testing.T) {
	for _, many := range []int{1, 2, 3, 4, 5, 8, 33, 63, 64} {
		for at := range many {
			p := slices.Repeat([]polar.Seen{spot(5*unit, 0)}, many)
			p[at] = spot(5*unit-1, 0)
			wantNearest(t, []predict.State{sure(0, 0)}, p, widest, at)
			if at == 0 {
				continue
			}
			p[at] = spot(5*unit+1, 0) // the farthest of the one is the nearest of the other
			wantNearest(t, []predict.State{sure(0, 0), sure(10*unit, 0)}, p, widest, 0, at)
			p[0], p[at] = p[at], p[0]
			wantNearest(t, []predict.State{sure(10*unit, 0), sure(0, 0)}, p, widest, 0, 1)
		}
	}
}

// Of those just as far the first, be they the same place or two; ahead of it and behind it are farther ones.
func TestGA3JustAsFar(t *testing.T) {
	same := []polar.Seen{spot(3*unit, 4*unit), spot(-3*unit, 4*unit), spot(4*unit, -3*unit), spot(5*unit, 0), spot(0, -5*unit)}
	farther := spot(6*unit, 0)
	for i := range same {
		for k := range same {
			p := []polar.Seen{farther, same[i], farther, same[k], farther}
			wantNearest(t, []predict.State{sure(0, 0)}, p, 25*unit, 1)
			wantNearest(t, []predict.State{sure(0, 0)}, p[2:], 25*unit, 1)
			wantNearest(t, []predict.State{sure(0, 0)}, p[:4:4], widest, 1)
			wantNearest(t, []predict.State{sure(0, 0)}, []polar.Seen{same[i], same[k]}, widest, 0)
			p[3].X = p[3].X * 1023 / 1024 // now less far than the first, or more
			p[3].Y = p[3].Y * 1023 / 1024
			wantNearest(t, []predict.State{sure(0, 0)}, p, 25*unit, 3)
			wantNearest(t, []predict.State{sure(0, 0)}, []polar.Seen{p[3], same[k], p[3]}, 25*unit, 0)
		}
	}
	// As far by rounding alone: 724 and 0 are both no distance, 725 and 1024 a last bit.
	wantNearest(t, []predict.State{sure(0, 0)}, []polar.Seen{spot(1024, 0), spot(724, 0), spot(0, 0)}, 1, 1)
	wantNearest(t, []predict.State{sure(0, 0)}, []polar.Seen{spot(1448, 0), spot(1024, 0), spot(725, 0)}, 1, 1)
	wantNearest(t, slices.Repeat([]predict.State{sure(0, 0)}, 64), slices.Repeat([]polar.Seen{spot(1, 1)}, 64), 1, make([]int, 64)...)
}

// Near is by how far it is of how unsure both are, not by metres.
func TestGA3ByHowUnsureBothAre(t *testing.T) {
	p := []polar.Seen{{X: 3 * unit, XX: unit, YY: unit}, {Y: 5 * unit, XX: unit, YY: 9 * unit}, {X: 9 * unit, XX: 100 * unit, YY: unit}}
	wantNearest(t, []predict.State{sure(0, 0)}, p, widest, 2) // 9, 2.8, 0.8
	wantNearest(t, []predict.State{sure(0, 0)}, p[:2], widest, 1)
	wantNearest(t, []predict.State{known(0, 0, 90*unit, 0, 0)}, p, widest, 0)           // 0.1, 2.8, 0.4
	wantNearest(t, []predict.State{known(0, 0, 900*unit, 0, 9000*unit)}, p, widest, 1)  // 0.01, 0.003, 0.08
	wantNearest(t, []predict.State{known(0, 0, 50*unit, 49*unit, 50*unit)}, p, unit, 2) // 2.3, 1, 0.8
}

// No state: no place. No place: -1 of each.
func TestGA3OfNone(t *testing.T) {
	for _, l := range [][]predict.State{nil, {}, make([]predict.State, 0, 3)} {
		for _, p := range [][]polar.Seen{nil, {}, make([]polar.Seen, 0, 3)} {
			for _, within := range mosts() {
				wantNearest(t, l, p, within)
				wantNearest(t, l, spots(), within)
				wantNearest(t, l, slices.Repeat(spots()[:1], 64), within)
				wantNearest(t, states(), p, within, -1, -1, -1, -1)
				wantNearest(t, slices.Repeat(states(), 16), p, within, slices.Repeat([]int{-1}, 64)...)
			}
		}
	}
}

// Where nothing can be told of a pair it is none; -1, if that are all.
func TestGA3WhereNothingCanBeTold(t *testing.T) {
	l := []predict.State{sure(0, 0), known(0, 0, unit, 0, unit)}
	wantNearest(t, l, []polar.Seen{exact(0, 0)}, widest, -1, 0)
	wantNearest(t, l, []polar.Seen{exact(0, 0), spot(9*unit, 0), exact(0, 0), spot(8*unit, 0), exact(0, 0)}, widest, 3, 0)
	wantNearest(t, l, []polar.Seen{exact(0, 0), spot(9*unit, 0), exact(0, 0)}, 80*unit, -1, 0)
	for _, c := range without() {
		wantNearest(t, []predict.State{c.s}, []polar.Seen{c.p}, widest, -1)
		wantNearest(t, []predict.State{c.s, c.s}, []polar.Seen{c.p, c.p, c.p}, 1, -1, -1)
	}
}

// Just as far as most is near enough, one bit farther is not.
func TestGA3JustAsFarAsMost(t *testing.T) {
	for _, c := range []struct {
		p      polar.Seen
		within int64
		want   int
	}{
		{spot(0, 0), 1, 0}, {spot(1024, 0), 1, 0}, {spot(1024, 1024), 1, -1}, {spot(1024, 1024), 2, 0},
		{spot(1<<25, 0), widest, 0}, {spot(1<<25, 0), widest - 1, -1}, {spot(1<<25-1, 8128), widest - 1, 0}, {spot(1<<25, 1024), widest, -1},
	} {
		wantNearest(t, []predict.State{sure(0, 0)}, []polar.Seen{c.p}, c.within, c.want)
		behind := c.want
		if behind == 0 {
			behind = 1
		}
		wantNearest(t, []predict.State{sure(0, 0), sure(-100*unit, 0)}, []polar.Seen{spot(-200*unit, 0), c.p}, c.within, behind, -1)
	}
}

// Each is one of Pairs' places, of which Gate says that none is less far, and none ahead of it just as far.
func TestGA3OfPairsTheLeastFar(t *testing.T) {
	r := rand.New(rand.NewSource(5))
	ties := 0
	for range 1500 {
		l, p := randomAll(r, 1+r.Intn(4), 1+r.Intn(6))
		within := randomMost(r)
		near, _, err := gate.Pairs(l, p, within)
		got, err2 := gate.Nearest(l, p, within)
		if err != nil || err2 != nil || len(near) != len(l) || len(got) != len(l) {
			t.Fatal(near, got, err, err2)
		}
		for i, s := range l {
			if len(near[i]) == 0 {
				if got[i] != -1 {
					t.Errorf("Nearest(%v, %v, %d): %v, but Pairs %v", l, p, within, got, near)
				}
				continue
			}
			if !slices.Contains(near[i], got[i]) {
				t.Fatalf("Nearest(%v, %v, %d): %v, but Pairs %v", l, p, within, got, near)
			}
			own, _, _, _ := gate.Gate(s, p[got[i]], within)
			for _, k := range near[i] {
				far, _, _, _ := gate.Gate(s, p[k], within)
				if far < own || far == own && k < got[i] {
					t.Errorf("Nearest(%v, %v, %d): %d, but %d", s, p, within, got[i], k)
				}
				if far == own && k > got[i] {
					ties++
				}
			}
		}
	}
	if ties < 100 {
		t.Errorf("just %d just as far", ties)
	}
}
