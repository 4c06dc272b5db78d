package gate_test

import (
	"math/rand"
	"slices"
	"testing"

	"radome/gate"
)

// With a greater most all are near enough that were, and what else Gate tells is the same.
func TestGA4OfGate(t *testing.T) {
	r := rand.New(rand.NewSource(6))
	for range 3000 {
		l, p := randomAll(r, 1, 1)
		far, near, over, err := gate.Gate(l[0], p[0], 1)
		for _, within := range append(mosts(), widest) {
			gotFar, gotNear, gotOver, err2 := gate.Gate(l[0], p[0], within)
			if gotFar != far || gotOver != over || err2 != err || near && !gotNear {
				t.Fatalf("Gate(%v, %v, %d): %d, %v, %v, %v; with less: %d, %v, %v, %v", l[0], p[0], within, gotFar, gotNear, gotOver, err2, far, near, over, err)
			}
			near = gotNear
		}
	}
}

// No fewer places are near enough: each that was stays; the nearest one stays the nearest.
func TestGA4OfPairsAndNearest(t *testing.T) {
	r := rand.New(rand.NewSource(7))
	more := 0
	for range 1000 {
		l, p := randomAll(r, 1+r.Intn(4), 1+r.Intn(6))
		within := []int64{randomMost(r), randomMost(r), randomMost(r), 1, widest}
		slices.Sort(within)
		near, over, err := gate.Pairs(l, p, 1)
		first, err2 := gate.Nearest(l, p, 1)
		if err != nil || err2 != nil {
			t.Fatal(err, err2)
		}
		for _, within := range within {
			wider, gotOver, err := gate.Pairs(l, p, within)
			then, err2 := gate.Nearest(l, p, within)
			if err != nil || err2 != nil || gotOver != over {
				t.Fatalf("Pairs(%v, %v, %d): %v, not %v; %v, %v", l, p, within, gotOver, over, err, err2)
			}
			for i := range l {
				for _, k := range near[i] {
					if !slices.Contains(wider[i], k) {
						t.Errorf("Pairs(%v, %v, %d): %v; with less: %v", l, p, within, wider, near)
					}
				}
				if first[i] >= 0 && then[i] != first[i] {
					t.Errorf("Nearest(%v, %v, %d): %v; with less: %v", l, p, within, then, first)
				}
				more += len(wider[i]) - len(near[i])
			}
			near, first = wider, then
		}
	}
	if more < 300 {
		t.Errorf("just %d more", more)
	}
}

// By the last bit: where most is just as far as a place, that one is near enough; with one more too, and with one less not.
func TestGA4ByTheLastBit(t *testing.T) {
	for i, row := range fars() {
		for _, far := range row {
			for _, within := range []int64{far - 1, far, far + 1} {
				if far < 0 || within > widest {
					continue
				}
				var near []int
				for k, other := range row {
					if other >= 0 && other <= within {
						near = append(near, k)
					}
				}
				wantPairs(t, states()[i:i+1], spots(), within, false, near)
				if slices.Contains(near, slices.Index(row, far)) != (within >= far) {
					t.Errorf("%d within %d: %v", far, within, near)
				}
			}
		}
	}
}
