package mix_test

import (
	"math/rand"
	"slices"
	"testing"

	"radome/mix"
)

// wantSame asks that states that are all the same stay so: by the steps of MX2 to the last bit, without anything too great.
func wantSame(t *testing.T, s state, chances []int64, rows [][]int64) {
	t.Helper()
	l := slices.Repeat([]state{s}, len(chances))
	wantJoin(t, l, chances, s, false)
	wantAll(t, l, chances, rows, l, reckonedThen(chances, rows), false)
}

func TestMX4TheSameStaySo(t *testing.T) {
	r := rand.New(rand.NewSource(20))
	for i := range 4000 {
		count := 1 + i%4
		wantSame(t, randomState(r, 1+r.Intn(62)), randomChances(r, count), randomRows(r, count))
	}
}

// So do those of MaxTop's size, on both sides, by chances that are edges.
func TestMX4TheSameOfEdges(t *testing.T) {
	third := []int64{357913942, 357913941, 357913941}
	for _, n := range edges() {
		p := filled(n)
		for i := range 6 {
			p = both(p, place{i, i, max(n, -n)})
		}
		for _, s := range []state{{allOf(n), p}, {vector{n, -n, n, -n, n, -n}, table{}}, {vector{}, p}} {
			for count := 1; count <= 4; count++ {
				for k := range count {
					wantSame(t, s, alone(k, count), itself(count))
					wantSame(t, s, alone(k, count), sameRows(alone((k+1)%count, count), count))
				}
			}
			wantSame(t, s, third, itself(3))
			wantSame(t, s, third, sameRows(third, 3))
			wantSame(t, s, []int64{1, one - 1}, [][]int64{{one - 1, 1}, {1, one - 1}})
			wantSame(t, s, []int64{1, 1, 1, one - 3}, sameRows([]int64{half + 1, 0, 1, half - 2}, 4))
		}
	}
}

// Those that differ by some last bits stay between each other, but for a last bit; and no less sure than the least sure one, by more than that.
func TestMX4NearlyTheSame(t *testing.T) {
	r := rand.New(rand.NewSource(21))
	for i := range 2000 {
		count := 1 + i%4
		s := randomState(r, 60)
		for k := range 6 { // so far from all bounds that some last bits more are within
			s.x[k] /= 2
			s.p = both(s.p, place{k, k, s.p[k][k]/2 + 8})
		}
		l := make([]state, count)
		for k := range l {
			l[k] = s
			for j := range 6 {
				l[k].x[j] += r.Int63n(9) - 4
				l[k].p = both(l[k].p, place{j, j, s.p[j][j] + r.Int63n(9) - 4})
			}
		}
		got, _, over, err := mix.All(given(l), randomChances(r, count), randomRows(r, count))
		if over || err != nil {
			t.Fatal(over, err)
		}
		for _, m := range got {
			for j := range 6 {
				lowest, highest := l[0].x[j], l[0].x[j]
				sure, unsure := l[0].p[j][j], l[0].p[j][j]
				for _, s := range l {
					lowest, highest = min(lowest, s.x[j]), max(highest, s.x[j])
					sure, unsure = min(sure, s.p[j][j]), max(unsure, s.p[j][j])
				}
				if m.X[j] < lowest-1 || m.X[j] > highest+1 || m.P.A[7*j] < sure-1 || m.P.A[7*j] > unsure+1 {
					t.Errorf("All(%v): %v", l, m)
				}
			}
		}
	}
}
