package like_test

import (
	"math"
	"math/rand"
	"testing"

	"radome/api"
	"radome/grow"
	"radome/like"
	"radome/mat"
	"radome/polar"
	"radome/predict"
	"radome/update"
)

func TestTheConstantsOfTheDocument(t *testing.T) {
	if api.MaxTop != top || top != 4611686018427387903 || 1<<api.Prob != one || 1<<api.Frac != unit || api.MaxModels != 4 {
		t.Errorf("MaxTop: %d", int64(api.MaxTop))
	}
}

// The numbers are of another reckoner than the tests' own.
func TestLK1Of(t *testing.T) {
	for _, c := range []struct {
		v    [2]int64
		f    pair
		want int64
	}{
		{[2]int64{3 * unit, 4 * unit}, pair{0, unit, unit}, -25 * unit / 2},
		{[2]int64{6 * unit, 5 * unit}, pair{half, 4 * unit, 2 * unit}, -6857394}, // 11, and the logarithm of 8
		{[2]int64{41943040, 47185920}, pair{226843680, 3982160000, 2860706856}, -8946712},
		{[2]int64{-15359360, 16097920}, pair{0, 2500 * unit, 2500 * unit}, -8298530},
		{[2]int64{unit, unit}, pair{one, unit, unit}, -unit / 2}, {[2]int64{unit, unit}, pair{-one, unit, unit}, -5 * unit / 2},
		{[2]int64{unit, 0}, pair{0, 2 * unit, unit / 2}, -unit / 4}, {[2]int64{0, unit}, pair{0, 2 * unit, unit / 2}, -unit},
		{[2]int64{-3 * unit, -4 * unit}, pair{0, unit, unit}, -25 * unit / 2}, {[2]int64{-6 * unit, -5 * unit}, pair{half, 4 * unit, 2 * unit}, -6857394},
	} {
		wantOf(t, c.f.gap(c.v), c.want, false)
		checkOf(t, c.v, c.f)
	}
}

// A gap of nought is as likely as its factors say alone: above nought where D is less than one.
func TestLK1OfNought(t *testing.T) {
	for _, c := range []struct {
		d0, d1, want int64
	}{
		{unit, unit, 0}, {unit, 4 * unit, -726818}, {2 * unit, 2 * unit, -726817}, {unit / 2, unit / 2, 726817}, {2 * unit, unit / 2, 0}, {unit / 2, 2 * unit, 0},
		{1, 1, 14536350}, {1, top, -7994992}, {top, 1, -7994992}, {top, top, -30526335},
	} {
		for _, l := range []int64{0, 1, -1, half, -one, top, -top} {
			wantOf(t, pair{l, c.d0, c.d1}.gap([2]int64{}), c.want, false)
			checkOf(t, [2]int64{}, pair{l, c.d0, c.d1})
		}
	}
}

// Sums that are odd lie halfway before they are rounded: to the even one, below 0 and above it.
func TestLK1OfHalves(t *testing.T) {
	for _, c := range []struct {
		v    [2]int64
		f    pair
		want int64
	}{
		{[2]int64{725, 0}, pair{0, unit, unit}, 0}, {[2]int64{725, 725}, pair{0, unit, unit}, -1}, {[2]int64{1774, 0}, pair{0, unit, unit}, -2}, {[2]int64{0, 1774}, pair{0, unit, unit}, -2}, {[2]int64{725, -1324}, pair{0, unit, unit}, -2}, {[2]int64{2290, 0}, pair{0, unit, unit}, -2}, // sums of 1, 2, 3, 3, 3 and 5
		{[2]int64{}, pair{0, unit - 1, unit}, 0}, {[2]int64{}, pair{0, unit - 1, unit - 1}, 1}, {[2]int64{}, pair{0, unit - 3, unit}, 2}, {[2]int64{}, pair{0, unit - 2, unit - 3}, 2}, {[2]int64{}, pair{0, unit, unit - 5}, 2}, // of -1, -2, -3, -5 and -5
		{[2]int64{}, pair{0, unit + 1, unit}, 0}, {[2]int64{}, pair{0, unit, unit + 3}, -2}, // of 1 and 3
		{[2]int64{725, 0}, pair{0, unit, unit - 3}, 1}, {[2]int64{725, 0}, pair{0, unit, unit - 1}, 0}, // both together are even
	} {
		wantOf(t, c.f.gap(c.v), c.want, false)
		checkOf(t, c.v, c.f)
	}
}

// The sum of both is bounded: at MaxTop's size it is told as it is, just above it that is told.
func TestLK1OfSumsAtTheBound(t *testing.T) {
	for _, c := range []struct {
		v1, d1, want int64
		great        bool
	}{
		{3093593, 3 * unit, 2 - 1<<61, false}, {3390455, 4 * unit, 2 - 1<<61, false}, {3390456, 4 * unit, 1 - 1<<61, false}, {3357787, 4065258, -1 << 61, false}, // 4, 3, 2 and 1 below 2^62
		{3390457, 4 * unit, -1 << 61, true}, {3390458, 4 * unit, -1 << 61, true}, {3093596, 3 * unit, -1 << 61, true}, // just that, 1 and 2 above
	} {
		v, f := [2]int64{1<<41 - 1, c.v1}, pair{0, unit, c.d1}
		wantOf(t, f.gap(v), c.want, c.great)
		if far, great := checkOf(t, v, f); far || great != c.great {
			t.Errorf("%v: Far too great: %v, anything: %v", c, far, great)
		}
	}
}

// As far as may be: what is too great is bounded, where the product, the quotient, the sum or what L makes of it is, and told though the logarithm isn't.
func TestLK1OfWhatIsTooGreat(t *testing.T) {
	const all = -1 << 61
	for _, c := range []struct {
		v    [2]int64
		f    pair
		want int64
	}{
		{[2]int64{most, most}, pair{0, unit, unit}, all}, {[2]int64{least, least}, pair{0, unit, unit}, all}, {[2]int64{most, 0}, pair{0, unit, unit}, all}, {[2]int64{0, least}, pair{0, unit, unit}, all}, {[2]int64{top, 0}, pair{0, unit, unit}, all}, {[2]int64{-top, 0}, pair{0, unit, unit}, all},
		{[2]int64{1 << 41, 0}, pair{0, unit, unit}, all}, {[2]int64{1<<41 - 1, 1<<41 - 1}, pair{0, unit, unit}, all}, {[2]int64{1<<41 - 1, 1<<41 - 1}, pair{0, unit, 2 * unit}, all}, // the sum of both too, with a logarithm above 0
		{[2]int64{most, most}, pair{0, 1, 1}, -2305843009199157602}, {[2]int64{least, 0}, pair{0, 1, 1}, -2305843009199157602}, {[2]int64{1<<41 - 1, 0}, pair{0, 1, 1}, -2305843009199157602}, // with one below 0 it is less
		{[2]int64{most, most}, pair{0, top, top}, -31574911}, {[2]int64{most, 0}, pair{0, top, top}, -31050623}, {[2]int64{0, least}, pair{0, top, top}, -31050623}, {[2]int64{0, least}, pair{0, unit, 2 * unit}, -1152921504607210384}, // nothing that is told is great
	} {
		wantOf(t, c.f.gap(c.v), c.want, true)
		if _, great := checkOf(t, c.v, c.f); !great {
			t.Errorf("%v: nothing is too great", c)
		}
	}
	for _, c := range []struct {
		v    [2]int64
		f    pair
		want int64
	}{
		{[2]int64{1<<41 - 1, 0}, pair{0, unit, unit}, -2305843009211596800}, {[2]int64{1<<41 - 1, 0}, pair{0, unit, 2 * unit}, -2305843009211960208}, {[2]int64{1<<41 - 1, 1<<41 - 1}, pair{0, top, top}, -31574911},
	} {
		wantOf(t, c.f.gap(c.v), c.want, false)
		checkOf(t, c.v, c.f)
	}
}

func TestLK1OfEdges(t *testing.T) {
	counts := map[[2]bool]int{}
	numbers := append([]int64{0, 1, -1, 725, unit, -unit, unit + unit/2, 1 << 40, 1 << 41, -1 << 41, 1<<41 - 1, top, -top}, beyond...)
	for _, a := range numbers {
		for _, b := range numbers {
			for _, l := range []int64{0, 1, half, -one, top, -top} {
				for _, d := range [][2]int64{{1, 1}, {unit, unit}, {1, top}, {top, 1}, {top, top}, {3, 7}, {unit - 1, unit}, {unit, 4 * unit}} {
					far, great := checkOf(t, [2]int64{a, b}, pair{l, d[0], d[1]})
					counts[[2]bool{far, great}]++
				}
			}
		}
	}
	if counts[[2]bool{true, true}] < 1000 || counts[[2]bool{}] < 1000 {
		t.Errorf("%v", counts)
	}
}

func TestLK1OfRandomGaps(t *testing.T) {
	r := rand.New(rand.NewSource(1))
	great, odd := 0, 0
	for range 40000 {
		f, bits := randomPair(r, 1+r.Intn(62)), 1+r.Intn(62)
		v := [2]int64{int64(r.Uint64()) >> r.Intn(64), random(r, bits)}
		if r.Intn(2) == 0 {
			v[0] = random(r, bits)
		}
		if _, over := checkOf(t, v, f); over {
			great++
		}
		far, _, err := update.Far(f.gap(v))
		if err != nil {
			t.Fatal(err)
		}
		if (far+steppedLog(f.d0)+steppedLog(f.d1))%2 != 0 {
			odd++
		}
	}
	if great < 1000 || great > 39000 || odd < 1000 {
		t.Errorf("%d too great, %d odd", great, odd)
	}
}

// Where the sum alone is too great: Far is just within, the logarithm brings it above.
func TestLK1OfWhereTheSumAloneIsTooGreat(t *testing.T) {
	r := rand.New(rand.NewSource(2))
	alone, within := 0, 0
	for range 20000 {
		f := pair{0, unit, unit + r.Int63n(50*unit)}
		v := [2]int64{1<<41 - 1, int64(math.Sqrt(float64(f.d1)*float64(1<<22-1-steppedLog(f.d1)))) + r.Int63n(9) - 4}
		switch far, great := checkOf(t, v, f); {
		case great && !far:
			alone++
		case !great:
			within++
		}
	}
	if alone < 1000 || within < 1000 {
		t.Errorf("%d too great by the sum alone, %d not", alone, within)
	}
}

// As the chapter says it: by layer 13's Far and layer 6's Log of both numbers of D.
func TestLK1OfByTheLayersBelow(t *testing.T) {
	r := rand.New(rand.NewSource(3))
	for range 5000 {
		f := randomPair(r, 40)
		g := f.gap([2]int64{random(r, 35), random(r, 35)})
		far, over, err := update.Far(g)
		if err != nil || over || far > top/2 {
			continue
		}
		for _, d := range []int64{f.d0, f.d1} {
			log, err := grow.Log(d, 20)
			if err != nil {
				t.Fatal(err)
			}
			far += log
		}
		wantOf(t, g, -(far/2)-far%4/3, false) // halves are cut towards 0; of 3 that isn't the even one
	}
}

// spread is a state at 0 that is so unsure of its place.
func spread(t *testing.T, xx, xy, yy int64) predict.State {
	t.Helper()
	rows := make([][]int64, 6)
	for i := range rows {
		rows[i] = make([]int64, 6)
		rows[i][i] = unit
	}
	rows[0][0], rows[0][3], rows[3][0], rows[3][3] = xx, xy, xy, yy
	p, err := mat.Of(rows)
	if err != nil {
		t.Fatal(err)
	}
	return predict.State{P: p}
}

// The gaps of layer 13: near the logarithm by floats, but for what is the same of all.
func TestLK1OfAGapThatWasReckoned(t *testing.T) {
	r := rand.New(rand.NewSource(4))
	for range 3000 {
		xx, yy := unit*(1+r.Int63n(10000)), unit*(1+r.Int63n(10000))
		xy := r.Int63n(min(xx, yy)) - min(xx, yy)/2
		x, y := r.Int63n(400*unit)-200*unit, r.Int63n(400*unit)-200*unit
		g, _, err := update.Of(spread(t, xx, xy, yy), polar.Seen{X: x, Y: y, XX: 100 * unit, YY: 100 * unit})
		if err != nil {
			t.Fatal(err)
		}
		a, b, c := float64(xx+100*unit)/float64(unit), float64(xy)/float64(unit), float64(yy+100*unit)/float64(unit)
		fx, fy, all := float64(x)/float64(unit), float64(y)/float64(unit), a*c-b*b
		want := -((fx*fx*c-2*fx*fy*b+fy*fy*a)/all + math.Log(all)) / 2
		got, over, err := like.Of(g)
		if err != nil || over || math.Abs(float64(got)/float64(unit)-want) > 1e-3*(1+math.Abs(want)) {
			t.Errorf("Of(%v): %d, %v, %v; want near %f", g, got, over, err, want*float64(unit))
		}
	}
}

// By the same factors what is farther away is no likelier.
func TestLK1FartherIsNoLikelier(t *testing.T) {
	r := rand.New(rand.NewSource(5))
	for range 5000 {
		f := pair{0, 1 + r.Int63n(1<<50), 1 + r.Int63n(1<<50)}
		v := [2]int64{random(r, 61), random(r, 61)}
		near, _, err := like.Of(f.gap(v))
		if err != nil {
			t.Fatal(err)
		}
		for i := range v {
			farther := v
			farther[i] += farther[i] >> r.Intn(40)
			if got, _, err := like.Of(f.gap(farther)); err != nil || got > near {
				t.Errorf("Of(%v): %d, %v; nearer, at %v, %d", f.gap(farther), got, err, v, near)
			}
		}
	}
}
