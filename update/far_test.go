package update_test

import (
	"math/rand"
	"testing"

	"radome/ldl"
	"radome/polar"
	"radome/update"
)

// wantFar asks for just that number.
func wantFar(t testing.TB, g update.Gap, want int64, great bool) {
	t.Helper()
	if got, over, err := update.Far(g); got != want || over != great || err != nil {
		t.Errorf("Far(%v): %d, %v, %v; want %d, %v", g, got, over, err, want, great)
	}
}

// checkFar asks for what UD1 says; whether anything was too great.
func checkFar(t testing.TB, v [2]int64, f pair) bool {
	t.Helper()
	want, great := reckonedFar(f, v)
	wantFar(t, update.Gap{V: v, F: f.factors()}, want, great)
	return great
}

func TestUD1Far(t *testing.T) {
	for _, c := range []struct {
		v    [2]int64
		f    pair
		want int64
	}{
		{[2]int64{41943040, 47185920}, pair{226843680, 3982160000, 2860706856}, 955212},
		{[2]int64{6 * unit, 5 * unit}, pair{whole / 2, 4 * unit, 2 * unit}, 11 * unit},
		{[2]int64{3 * unit, 4 * unit}, pair{0, unit, unit}, 25 * unit},
		{[2]int64{-3 * unit, 4 * unit}, pair{0, 9 * unit, 16 * unit}, 2 * unit},
		{[2]int64{3 * unit, 0}, pair{0, 4 * unit, unit}, 9 * unit / 4},
		{[2]int64{0, 3 * unit}, pair{0, 4 * unit, unit}, 9 * unit},
		{[2]int64{unit, unit}, pair{whole, unit, unit}, unit},
		{[2]int64{unit, unit}, pair{-whole, unit, unit}, 5 * unit},
		{[2]int64{}, pair{top, 1, 1}, 0},
	} {
		wantFar(t, update.Gap{V: c.v, F: c.f.factors()}, c.want, false)
		checkFar(t, c.v, c.f)
	}
}

// The gap that Of answers is as far as it is by the matrix of both spreads.
func TestUD1FarOfAGap(t *testing.T) {
	s := stateOf(someX, someP())
	gap, _, err := update.Of(s, someSeen)
	if err != nil {
		t.Fatal(err)
	}
	wantFar(t, gap, 955212, false)
	// As sure as the place, 20 m away: 400 by 200.
	gap, _, err = update.Of(stateOf(vector{}, onDiagonal(100*unit, 1, 1, 100*unit)), polar.Seen{X: 20 * unit, XX: 100 * unit, YY: 100 * unit})
	if err != nil {
		t.Fatal(err)
	}
	wantFar(t, gap, 2*unit, false)
}

// V may have any numbers of 64 bits: a gap that no call answered has no other bounds than its factors.
func TestUD1FarOfEdges(t *testing.T) {
	great := 0
	numbers := append([]int64{0, 1, -1, 3, unit, -unit, unit + unit/2, 1 << 40, 1 << 41, -1 << 41, 1<<41 - 1, top, -top}, beyond...)
	for _, a := range numbers {
		for _, b := range numbers {
			for _, l := range []int64{0, 1, whole / 2, -whole, top, -top} {
				for _, d := range [][2]int64{{1, 1}, {unit, unit}, {1, top}, {top, 1}, {top, top}, {3, 7}} {
					if checkFar(t, [2]int64{a, b}, pair{l, d[0], d[1]}) {
						great++
					}
				}
			}
		}
	}
	if great < 1000 {
		t.Errorf("just %d too great", great)
	}
	wantFar(t, update.Gap{V: [2]int64{most, 0}, F: pair{0, top, top}.factors()}, unit, true)
	wantFar(t, update.Gap{V: [2]int64{0, least}, F: pair{0, top, top}.factors()}, unit, true)
	wantFar(t, update.Gap{V: [2]int64{1 << 41, 0}, F: pair{0, unit, unit}.factors()}, top, true)
	wantFar(t, update.Gap{V: [2]int64{1<<41 - 1, 0}, F: pair{0, unit, unit}.factors()}, 1<<62-1<<22, false)
}

// Halves: of a square, of what is told by D, and of what L takes off.
func TestUD1FarOfHalves(t *testing.T) {
	for _, c := range []struct {
		v    [2]int64
		f    pair
		want int64
	}{
		{[2]int64{1 << 10, 0}, pair{0, unit, unit}, 1}, {[2]int64{1 << 10, 0}, pair{0, 2 * unit, unit}, 0}, {[2]int64{3 << 10, 0}, pair{0, 2 * unit, unit}, 4}, {[2]int64{0, 1 << 10}, pair{0, unit, 2 * unit}, 0},
		{[2]int64{1024 + 512, 0}, pair{0, unit, unit}, 2}, {[2]int64{1, 0}, pair{whole / 2, unit, 1}, 0}, {[2]int64{3, 2}, pair{whole / 2, unit, 1}, 0}, {[2]int64{3, 2 + 1<<10}, pair{whole / 2, unit, 1}, unit},
	} {
		wantFar(t, update.Gap{V: c.v, F: c.f.factors()}, c.want, false)
		checkFar(t, c.v, c.f)
	}
}

func TestUD1FarOfRandomGaps(t *testing.T) {
	r := rand.New(rand.NewSource(2))
	great := 0
	for range 30000 {
		f := pair{random(r, 1+r.Intn(62)), max(1, above(r, 1+r.Intn(62))), max(1, above(r, 1+r.Intn(62)))}
		v := [2]int64{int64(r.Uint64()) >> r.Intn(64), random(r, 1+r.Intn(62))}
		if r.Intn(2) == 0 {
			v[0], v[1] = v[1], v[0]
		}
		if checkFar(t, v, f) {
			great++
		}
	}
	if great < 1000 || great > 29000 {
		t.Errorf("%d too great", great)
	}
}

// goodFactors are factors that may be, of so many numbers.
func goodFactors(n int) ldl.Factors {
	f := ldl.Factors{N: n}
	for i := range n {
		f.D[i] = unit
		for j := range i {
			f.L[i*n+j] = int64(i-3*j) * 1000
		}
		f.L[i*n+i] = whole
	}
	return f
}

// wrongFactors are such as may not be, or have not two numbers.
func wrongFactors() []ldl.Factors {
	out := []ldl.Factors{{}}
	for n := 1; n <= 6; n++ {
		if n != 2 {
			out = append(out, goodFactors(n))
		}
		out = append(out, ldl.Factors{N: n}, ldl.Factors{N: n, D: goodFactors(n).D}, ldl.Factors{N: n, L: goodFactors(n).L})
	}
	for _, n := range []int{0, 1, -1, -2, 3, 4, 6, 7, 36, 1<<32 + 2, 1 << 62, most, least, least + 2} {
		f := goodFactors(2)
		f.N = n
		out = append(out, f)
	}
	for i := range 6 {
		for _, wrong := range []int64{0, 1, -1, -unit, top, top + 1, -top, most, least} {
			if may := wrong >= 1 && wrong <= top; (i < 2) != may && (i < 2 || wrong != 0) {
				f := goodFactors(2)
				f.D[i] = wrong
				out = append(out, f)
			}
		}
	}
	for place := range 36 {
		for _, wrong := range wrongInL(place) {
			f := goodFactors(2)
			f.L[place] = wrong
			out = append(out, f)
		}
	}
	return out
}

// wrongInL are numbers that may not stand at a place of L of two rows.
func wrongInL(place int) []int64 {
	switch place {
	case 0, 3:
		return []int64{0, 1, -1, unit, whole - 1, whole + 1, -whole, 1 << 31, 1 << 29, top, most, least}
	case 2:
		return beyond
	}
	return []int64{1, -1, whole, unit, top, -top, most, least}
}

func TestUD1FarOfWrongFactors(t *testing.T) {
	for _, f := range wrongFactors() {
		for _, v := range [][2]int64{{}, {unit, -unit}, {most, least}} {
			g := update.Gap{V: v, F: f}
			got, over, err := update.Far(g)
			wantErr(t, call("Far", g), err, 1)
			if got != 0 || over {
				t.Errorf("Far(%v): %d, %v beside an error", g, got, over)
			}
		}
	}
}
