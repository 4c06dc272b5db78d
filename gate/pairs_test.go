package gate_test

import (
	"math/rand"
	"slices"
	"testing"

	"radome/api"
	"radome/polar"
	"radome/predict"
)

// listed are the numbers from one to another one, which is not among them.
func listed(from, to int) []int {
	var out []int
	for i := from; i < to; i++ {
		out = append(out, i)
	}
	return out
}

func TestGA2OfAnOrdinaryCase(t *testing.T) {
	for _, c := range []struct {
		within int64
		want   [][]int
	}{
		{widest, [][]int{{0, 1, 2, 4, 5}, {0, 4, 5}, {3}, {0, 2, 4}}},
		{1 << 24, [][]int{{0, 1, 2, 4}, {0, 4, 5}, {3}, {0, 2, 4}}},
		{16046484, [][]int{{0, 1, 2, 4}, {5}, {3}, {0, 2, 4}}},
		{1041118, [][]int{{0, 1, 2, 4}, nil, nil, nil}}, {1041117, [][]int{{1, 2}, nil, nil, nil}},
		{78994, [][]int{{2}, nil, nil, nil}}, {78993, make([][]int, 4)}, {1, make([][]int, 4)},
	} {
		wantPairs(t, states(), spots(), c.within, false, c.want...)
		checkAll(t, states(), spots(), c.within)
	}
	for i, s := range states() { // each state alone
		wantPairs(t, []predict.State{s}, spots(), widest, false, [][]int{{0, 1, 2, 4, 5}, {0, 4, 5}, {3}, {0, 2, 4}}[i])
	}
	for k, seen := range spots() { // and each place alone
		var want [][]int
		for _, row := range fars() {
			var near []int
			if row[k] >= 0 && row[k] <= widest {
				near = []int{0}
			}
			want = append(want, near)
		}
		wantPairs(t, states(), []polar.Seen{seen}, widest, false, want...)
	}
}

// The order of states and of places is that of what is handed in.
func TestGA2InOrder(t *testing.T) {
	r := rand.New(rand.NewSource(3))
	l, p := states(), spots()
	for range 200 {
		order, turn := r.Perm(len(l)), r.Perm(len(p))
		var some []predict.State
		var seen []polar.Seen
		for _, i := range order {
			some = append(some, l[i])
		}
		for _, k := range turn {
			seen = append(seen, p[k])
		}
		var want [][]int
		for _, i := range order {
			var near []int
			for k, from := range turn {
				if far := fars()[i][from]; far >= 0 && far <= 1<<24 {
					near = append(near, k)
				}
			}
			want = append(want, near)
		}
		wantPairs(t, some, seen, 1<<24, false, want...)
	}
}

// Just as far as most, one bit nearer, one bit farther: with the least most and with the greatest.
func TestGA2JustAsFarAsMost(t *testing.T) {
	l := []predict.State{sure(0, 0), sure(100*unit, 0)}
	small := []polar.Seen{spot(724, 0), spot(1024, 0), spot(1024, 1024), spot(1448, 0), spot(0, -1024), spot(1<<25, 0), spot(100*unit+1024, 1024), spot(100*unit, 1024)}
	wantPairs(t, l, small, 1, false, []int{0, 1, 4}, []int{7})
	wantPairs(t, l, small, 2, false, []int{0, 1, 2, 3, 4}, []int{6, 7})
	great := []polar.Seen{spot(1<<25, 1024), spot(1<<25, 0), spot(1<<25-1, 8128), spot(1<<25+1, 0), spot(0, 1<<25), spot(1024, -1<<25), spot(68*unit, 0)}
	wantPairs(t, l, great, widest, false, []int{1, 2, 4}, []int{6})
	wantPairs(t, l, great, widest-1, false, []int{2}, nil)
	wantPairs(t, l, great, widest-2, false, nil, nil)
}

// Nothing can be told of some pairs: they are left out, and all others are there, wherever such a one stands.
func TestGA2WhereNothingCanBeTold(t *testing.T) {
	for many := 1; many <= 5; many++ {
		for at := range many {
			l, p := slices.Repeat([]predict.State{sure(0, 0)}, 2), slices.Repeat([]polar.Seen{spot(unit, 0)}, many)
			p[at] = exact(0, 0)
			near := slices.Delete(listed(0, many), at, at+1)
			wantPairs(t, l, p, widest, false, near, near)
			l[1] = known(0, 0, unit, 0, unit) // of which it can
			wantPairs(t, l, p, widest, false, near, listed(0, many))
			slices.Reverse(l)
			wantPairs(t, l, p, widest, false, listed(0, many), near)
		}
	}
	// Of all of them.
	wantPairs(t, []predict.State{sure(0, 0), sure(0, 0)}, []polar.Seen{exact(0, 0), exact(5, 5), exact(top, -top)}, widest, false, nil, nil)
	for _, c := range without() {
		wantPairs(t, []predict.State{c.s}, []polar.Seen{c.p}, widest, false, nil) // what was too great is not told where nothing is
	}
	wantPairs(t, slices.Repeat([]predict.State{sure(top, 0)}, 64), slices.Repeat([]polar.Seen{exact(-top, 0)}, 64), 1, false, make([][]int, 64)...)
}

// No state: no list. No place: of each state none.
func TestGA2OfNone(t *testing.T) {
	for _, l := range [][]predict.State{nil, {}, make([]predict.State, 0, 3)} {
		for _, p := range [][]polar.Seen{nil, {}, make([]polar.Seen, 0, 3)} {
			for _, within := range mosts() {
				wantPairs(t, l, p, within, false)
				wantPairs(t, l, spots(), within, false)
				wantPairs(t, l, slices.Repeat(spots()[:1], 64), within, false)
				wantPairs(t, states(), p, within, false, make([][]int, 4)...)
				wantPairs(t, slices.Repeat(states(), 16), p, within, false, make([][]int, 64)...)
			}
		}
	}
}

// As many as may be: 64 of each, all of which are near, none, or one each.
func TestGA2AsManyAsMayBe(t *testing.T) {
	l, p := slices.Repeat([]predict.State{known(0, 0, unit, 0, unit)}, 64), slices.Repeat([]polar.Seen{exact(unit, 0)}, 64)
	if len(l) != api.MaxTracks || len(p) != api.MaxPlots {
		t.Fatal("64 are not as many as may be")
	}
	wantPairs(t, l, p, unit, false, slices.Repeat([][]int{listed(0, 64)}, 64)...)
	wantPairs(t, l, p, unit-1, false, make([][]int, 64)...)
	wantPairs(t, l[:1], p, unit, false, listed(0, 64))
	wantPairs(t, l, p[:1], unit, false, slices.Repeat([][]int{{0}}, 64)...)
	var want [][]int
	for i := range 64 {
		l[i].X[0], p[63-i].X = int64(i)*100*unit, int64(i)*100*unit
		want = append(want, []int{63 - i})
	}
	wantPairs(t, l, p, widest, false, want...)
	checkAll(t, l, p, widest)
}

// The same state twice has the same places twice; the same place twice is there twice.
func TestGA2TheSameTwice(t *testing.T) {
	l, p := append(states(), states()...), append(spots(), spots()...)
	want := [][]int{{0, 1, 2, 4, 5, 6, 7, 8, 10, 11}, {0, 4, 5, 6, 10, 11}, {3, 9}, {0, 2, 4, 6, 8, 10}}
	wantPairs(t, l, p, widest, false, append(want, want...)...)
}

func TestGA2AndGA3OfRandomStatesAndPlaces(t *testing.T) {
	r := rand.New(rand.NewSource(4))
	count := map[bool]int{}
	found := 0
	for range 3000 {
		l, p := randomAll(r, r.Intn(5), r.Intn(6))
		near, over := checkAll(t, l, p, randomMost(r))
		count[over]++
		found += len(slices.Concat(near...))
	}
	for range 8 {
		l, p := randomAll(r, 58+r.Intn(7), 58+r.Intn(7))
		checkAll(t, l, p, randomMost(r))
	}
	if count[true] < 300 || count[false] < 1000 || found < 3000 {
		t.Errorf("so many too great: %v; %d near", count, found)
	}
}
