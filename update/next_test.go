package update_test

import (
	"math/rand"
	"testing"

	"radome/polar"
	"radome/predict"
	"radome/update"
)

// wantBoth asks for just that state, without anything too great, and for the same with x and y taken for each other; so does the reckoner.
func wantBoth(t testing.TB, x vector, p table, seen polar.Seen, wantX vector, wantP table) {
	t.Helper()
	wantNext(t, stateOf(x, p), seen, wantX, wantP, false)
	check(t, x, p, seen)
	x, p, seen = swapped(x, p, seen)
	wantX, wantP, _ = swapped(wantX, wantP, polar.Seen{})
	wantNext(t, stateOf(x, p), seen, wantX, wantP, false)
	check(t, x, p, seen)
}

func TestUD2TheExample(t *testing.T) {
	s, err := predict.Blank(0, 0, 0, 0, 100*unit, unit, unit)
	if err != nil {
		t.Fatal(err)
	}
	want := onDiagonal(50*unit, unit, unit, 50*unit, unit, unit)
	wantNext(t, s, polar.Seen{X: 20 * unit, XX: 100 * unit, YY: 100 * unit}, vector{10 * unit}, want, false)
	wantNext(t, s, polar.Seen{Y: -20 * unit, XX: 100 * unit, YY: 100 * unit}, vector{3: -10 * unit}, want, false)
}

// A state that is as sure as the place ends in the middle of both, wherever they are, and is twice as sure.
func TestUD2TheMiddleOfBoth(t *testing.T) {
	for _, n := range []int64{4, unit, 100 * unit, 1 << 40, 1 << 60} {
		for _, from := range []int64{0, 6, -unit, 1000 * unit, 1 << 60} {
			for _, to := range []int64{0, 4, -18, 31 * unit * 2, -1 << 60} {
				p := onDiagonal(n, 3, 5, n, 7, 9)
				want := onDiagonal(n/2, 3, 5, n/2, 7, 9)
				wantBoth(t, vector{from, 1, 2, -from, 3, 4}, p, polar.Seen{X: to, Y: to, XX: n, YY: n}, vector{(from + to) / 2, 1, 2, (to - from) / 2, 3, 4}, want)
			}
		}
	}
	// The same spread of both, beside the diagonal too.
	p := both(onDiagonal(2*unit, 0, 0, 2*unit), place{0, 3, unit})
	want := both(onDiagonal(unit, 0, 0, unit), place{0, 3, unit / 2})
	wantBoth(t, vector{}, p, polar.Seen{X: 8 * unit, Y: -6 * unit, XX: 2 * unit, YY: 2 * unit, XY: unit}, vector{4 * unit, 0, 0, -3 * unit, 0, 0}, want)
}

// What hangs together is moved together: a velocity with its place, x with y.
func TestUD2OfWhatHangsTogether(t *testing.T) {
	// x and its velocity: K is a half and a quarter.
	p := both(onDiagonal(4*unit, 3*unit, unit, unit, unit, unit), place{0, 1, 2 * unit})
	want := both(onDiagonal(2*unit, 5*unit/2, unit, unit/2, unit, unit), place{0, 1, unit})
	wantBoth(t, vector{unit, 2 * unit, 3 * unit, 0, 0, 0}, p, polar.Seen{X: 9 * unit, XX: 4 * unit, YY: unit}, vector{5 * unit, 4 * unit, 3 * unit, 0, 0, 0}, want)
	// x's acceleration with y: what is seen by x moves nothing of it, what is seen by y does.
	p = both(onDiagonal(unit, unit, 5*unit, 3*unit, unit, unit), place{2, 3, 2 * unit})
	want = both(onDiagonal(unit/2, unit, 4*unit, 3*unit/4, unit, unit), place{2, 3, unit / 2})
	wantBoth(t, vector{}, p, polar.Seen{X: 8 * unit, Y: 4 * unit, XX: unit, YY: unit}, vector{4 * unit, 0, 2 * unit, 3 * unit, 0, 0}, want)
	// x and y: what is seen by x moves y, too.
	p = both(onDiagonal(2*unit, 0, 0, 2*unit), place{0, 3, unit})
	want = onDiagonal(3*unit/4, 0, 0, 3*unit/4)
	wantBoth(t, vector{}, p, polar.Seen{X: 8 * unit, XX: 2 * unit, YY: 2 * unit, XY: -unit}, vector{4 * unit, 0, 0, 2 * unit, 0, 0}, want)
}

// An ordinary case, reckoned by another program.
func TestUD2OfAllAtOnce(t *testing.T) {
	want := table{
		{564645492, 297451358, 3137012, 457607165, 292157454, 6827123},
		{297451358, 823036667, 33912868, 270638693, -82173293, 16513147},
		{3137012, 33912868, 25790904, 1399691, 11578506, -2658367},
		{457607165, 270638693, 1399691, 542928969, 317879468, 9095293},
		{292157454, -82173293, 11578506, 317879468, 765840534, 43181530},
		{6827123, 16513147, -2658367, 9095293, 43181530, 16075403},
	}
	wantNext(t, stateOf(someX, someP()), someSeen, vector{10500332305, -43474190, 1080171, -7320786245, 136874045, -1767012}, want, false)
	check(t, someX, someP(), someSeen)
}

// A place that is just there is where the state ends, with nothing unsure of it.
func TestUD2OfAnExactPlace(t *testing.T) {
	p := both(onDiagonal(4*unit, 3*unit, unit, unit, unit, unit), place{0, 1, 2 * unit})
	wantBoth(t, vector{}, p, polar.Seen{X: 7 * unit, Y: -3 * unit}, vector{7 * unit, 7 * unit / 2, 0, -3 * unit, 0, 0}, onDiagonal(0, 2*unit, unit, 0, unit, unit))
	wantBoth(t, vector{top, 1, 1, -top, 1, 1}, onDiagonal(1, 0, 0, 1), polar.Seen{X: 1, Y: -1}, vector{1, 1, 1, -1, 1, 1}, table{})
	// Just there by x alone.
	wantBoth(t, vector{}, onDiagonal(unit, 0, 0, unit), polar.Seen{X: 7, Y: 8, YY: 3 * unit}, vector{7, 0, 0, 2, 0, 0}, onDiagonal(0, 0, 0, 3*unit/4))
}

// A state that is sure, or a place that is hardly known, changes nothing.
func TestUD2OfNothingToLearn(t *testing.T) {
	r := rand.New(rand.NewSource(3))
	for range 200 {
		x, p := randomState(r, 40)
		x[0], x[3] = random(r, 60), random(r, 60)
		for i := range 6 {
			p = both(p, place{i, 0, 0}, place{i, 3, 0})
		}
		wantBoth(t, x, p, polar.Seen{X: random(r, 60), Y: random(r, 60), XX: 1 + above(r, 50), YY: 1 + above(r, 50)}, x, p)
	}
	p := onDiagonal(unit, unit, unit, unit, unit, unit)
	wantBoth(t, someX, p, polar.Seen{X: unit, Y: unit, XX: top - unit, YY: top - unit}, someX, p)
}

// A place that is where the state is moves nothing, and makes all the more sure.
func TestUD2OfAPlaceWhereTheStateIs(t *testing.T) {
	r := rand.New(rand.NewSource(4))
	for range 2000 {
		x, _ := randomState(r, 1+r.Intn(62))
		p := randomSpread(r, 40)
		seen := polar.Seen{X: x[0], Y: x[3], XX: above(r, 40) + 1, YY: above(r, 40) + 1}
		got, _, err := update.Next(stateOf(x, p), seen)
		if err != nil {
			continue // a spread may be of nothing by y
		}
		if got.X != x {
			t.Errorf("Next(%v, %v, %v): moved to %v", x, p, seen, got.X)
		}
		check(t, x, p, seen)
	}
	p := both(onDiagonal(4*unit, 3*unit, unit, unit, unit, unit), place{0, 1, 2 * unit})
	want := both(onDiagonal(2*unit, 5*unit/2, unit, unit/2, unit, unit), place{0, 1, unit})
	for _, n := range []int64{0, 5, top, -top} {
		wantBoth(t, vector{n, 1, 2, -n, 3, 4}, p, polar.Seen{X: n, Y: -n, XX: 4 * unit, YY: unit}, vector{n, 1, 2, -n, 3, 4}, want)
	}
}

// What lies on just a half: with K a half, or on a half itself, one and a half last bits are two, a half is none.
func TestUD2OfHalves(t *testing.T) {
	for _, c := range [][3]int64{{1, 0, 0}, {3, 2, 2}, {5, 2, 2}, {7, 4, 4}, {9, 4, 4}, {11, 6, 6}, {-1, 0, 0}, {-3, -2, -2}, {-5, -2, -2}, {-7, -4, -4}} {
		n, moved, beside := c[0], c[1], c[2]
		p := both(onDiagonal(unit, 0, 0, unit), place{0, 1, n})
		want := both(onDiagonal(unit/2, 0, 0, unit/2), place{0, 1, beside})
		wantBoth(t, vector{}, p, polar.Seen{X: n, XX: unit, YY: unit}, vector{moved}, want)
		w, _ := check(t, vector{}, p, polar.Seen{X: n, XX: unit, YY: unit})
		for _, step := range []int{stepK, stepKV, stepBP} {
			if !w.half[step] {
				t.Errorf("%d: no half in step %d", n, step)
			}
		}
	}
	// The middle of 2 and 1 is 2, as of 2 and 3: P's (0, 1) comes out as 2 and 1 of 3.
	w, _ := check(t, vector{}, both(onDiagonal(unit, 0, 0, unit), place{0, 1, 3}), polar.Seen{XX: unit, YY: unit})
	if !w.half[stepEven] {
		t.Error("no half in the middle")
	}
}

// A number below 0 on the diagonal is 0; one that just isn't is as it is. P nothing could have brings it there.
func TestUD2OfADiagonalBelowNought(t *testing.T) {
	for _, i := range []int{1, 2, 4, 5} {
		for _, c := range [][2]int64{{0, 0}, {unit, 0}, {16*unit - 1, 0}, {16 * unit, 0}, {16*unit + 1, 1}, {17 * unit, unit}} {
			p := both(onDiagonal(0, 9, 9, 9, 9, 9), place{i, 0, 4 * unit}, place{i, i, c[0]})
			want := both(onDiagonal(0, 9, 9, 9, 9, 9), place{i, 0, 4 * unit}, place{i, i, c[1]})
			x := vector{}
			x[i] = 4
			wantBoth(t, vector{}, p, polar.Seen{X: 1, XX: unit, YY: unit << 10}, x, want)
		}
	}
	// x itself, by what it shares with y.
	p := both(onDiagonal(unit, 0, 0, 0), place{0, 3, 4 * unit})
	want := both(table{}, place{0, 3, 2 * unit})
	wantBoth(t, vector{}, p, polar.Seen{XX: unit, YY: unit, XY: -4 * unit}, vector{}, want)
	wantBoth(t, vector{}, p, polar.Seen{Y: unit, XX: unit, YY: unit, XY: -4 * unit}, vector{0: 4 * unit}, want)
	// All six at once, of random numbers.
	r := rand.New(rand.NewSource(5))
	count := [7]int{}
	for range 3000 {
		x, p := randomState(r, 30)
		for i := range 6 {
			p[i][i] >>= 10
		}
		seen := polar.Seen{XX: above(r, 20), YY: above(r, 20)}
		if _, ok := check(t, x, p, seen); !ok {
			continue
		}
		got, _, _ := update.Next(stateOf(x, p), seen)
		noughts := 0
		for i := range 6 {
			if got.P.A[7*i] == 0 {
				noughts++
			}
		}
		count[noughts]++
	}
	if count[6] < 20 || count[2] < 20 {
		t.Errorf("so many noughts: %v", count)
	}
}

// Numbers of MaxTop's size on both sides, one at a time and all at once.
func TestUD2OfMaxTop(t *testing.T) {
	for _, n := range []int64{top, -top, top - 1, 1 - top} {
		for i := range 6 {
			x := someX
			x[i] = n
			check(t, x, someP(), someSeen)
			check(t, x, table{}, someSeen)
			for j := range 6 {
				p := both(someP(), place{i, j, n})
				if i == j {
					p[i][i] = max(n, -n)
				}
				check(t, someX, p, someSeen)
				check(t, vector{n, n, n, -n, n, n}, p, someSeen)
				check(t, someX, p, polar.Seen{X: n, Y: -n, XX: top, YY: top})
			}
		}
		for k := range 5 {
			check(t, someX, someP(), withNumber(someSeen, k, n))
			check(t, someX, table{}, withNumber(polar.Seen{XX: unit, YY: unit}, k, n))
		}
	}
}

// withNumber is a place with another number at one of its five places; XX and YY are told by its size.
func withNumber(seen polar.Seen, k int, n int64) polar.Seen {
	switch k {
	case 0:
		seen.X = n
	case 1:
		seen.Y = n
	case 2:
		seen.XX = max(n, -n)
	case 3:
		seen.YY = max(n, -n)
	case 4:
		seen.XY = n
	}
	return seen
}

// Numbers of all sizes, and P of all kinds; halves are found in every step that rounds.
func TestUD2OfRandomNumbers(t *testing.T) {
	r := rand.New(rand.NewSource(6))
	good, halves := 0, [allSteps]int{}
	alone := map[int]int{}
	for range 12000 {
		bits := 1 + r.Intn(62)
		x, p := randomState(r, bits)
		if r.Intn(2) == 0 {
			p = randomSpread(r, 2+r.Intn(60))
		}
		seen := randomSeen(r, 1+r.Intn(62))
		if r.Intn(2) == 0 {
			seen = randomSeen(r, bits)
		}
		w, ok := check(t, x, p, seen)
		if !ok {
			continue
		}
		good++
		for step := range allSteps {
			if w.half[step] && w.great == (which{}) {
				halves[step]++
			}
			if w.great == those(step) {
				alone[step]++
			}
		}
	}
	for _, step := range []int{stepK, stepKV, stepBP, stepBPB, stepKR, stepKRK, stepEven} {
		if halves[step] < 50 {
			t.Errorf("just %d halves in step %d", halves[step], step)
		}
	}
	for _, step := range []int{stepV, stepS, stepKV, stepX} {
		if alone[step] < 10 {
			t.Errorf("just %d times step %d was too great alone", alone[step], step)
		}
	}
	if good < 5000 || alone[stepEven] != 0 {
		t.Errorf("%d with factors, %v", good, alone)
	}
}
