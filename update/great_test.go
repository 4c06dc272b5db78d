package update_test

import (
	"testing"

	"radome/polar"
	"radome/update"
)

// wantGreat asks that just these steps were too great, and for what UD2 says; and the same with x and y taken for each other.
func wantGreat(t *testing.T, what string, x vector, p table, seen polar.Seen, steps which) {
	t.Helper()
	for range 2 {
		w, ok := check(t, x, p, seen)
		if !ok || w.great != steps {
			t.Errorf("%s: %v were too great, not %v (factors: %v)", what, w.great, steps, ok)
		}
		x, p, seen = swapped(x, p, seen)
	}
}

// wantTold asks for just that state, and that something was too great.
func wantTold(t *testing.T, x vector, p table, seen polar.Seen, wantX vector, wantP table) {
	t.Helper()
	wantNext(t, stateOf(x, p), seen, wantX, wantP, true)
	x, p, seen = swapped(x, p, seen)
	wantX, wantP, _ = swapped(wantX, wantP, polar.Seen{})
	wantNext(t, stateOf(x, p), seen, wantX, wantP, true)
}

// square is what a case by x and y alone is made of: P's numbers, and the place's, both without so many bits.
type square struct {
	xx, xy, yy int64
	seen       [3]int64
	bits       int
}

func (q square) both() (table, polar.Seen) {
	p := both(onDiagonal(q.xx<<q.bits, 0, 0, q.yy<<q.bits), place{0, 3, q.xy << q.bits})
	return p, polar.Seen{XX: q.seen[0] << q.bits, XY: q.seen[1] << q.bits, YY: q.seen[2] << q.bits}
}

// mirrored is that with the other sign beside the diagonal.
func (q square) mirrored() square {
	q.xy, q.seen[1] = -q.xy, -q.seen[1]
	return q
}

// V alone: a state that is sure is not moved, but it is told.
func TestUD2TooGreatInVAlone(t *testing.T) {
	seen := polar.Seen{X: top, XX: unit, YY: unit}
	wantGreat(t, "V", vector{0: -top}, table{}, seen, those(stepV))
	wantTold(t, vector{0: -top}, table{}, seen, vector{0: -top}, table{})
	wantGreat(t, "V, just", vector{0: -1}, table{}, seen, those(stepV))
	wantGreat(t, "V, just not", vector{}, table{}, seen, which{})
	seen.X = -top
	wantGreat(t, "V, just below", vector{0: 1}, table{}, seen, those(stepV))
	wantGreat(t, "V, just not below", vector{}, table{}, seen, which{})
	// V is bounded ahead of being taken: half of it is half of MaxTop.
	seen = polar.Seen{X: top, XX: unit, YY: unit}
	wantGreat(t, "V bounded", vector{0: -top}, onDiagonal(unit), seen, those(stepV))
	wantTold(t, vector{0: -top}, onDiagonal(unit), seen, vector{0: 1<<61 - top}, onDiagonal(unit/2))
}

func TestUD2TooGreatInTheMatrixAlone(t *testing.T) {
	seen := polar.Seen{X: 8, XX: 1, YY: unit}
	wantGreat(t, "the matrix", vector{}, onDiagonal(top), seen, those(stepS))
	wantTold(t, vector{}, onDiagonal(top), seen, vector{8}, onDiagonal(1))
	wantGreat(t, "the matrix, just not", vector{}, onDiagonal(top-1), seen, which{})
	seen.XX = top
	wantGreat(t, "the matrix, twice", vector{}, onDiagonal(unit), seen, those(stepS))
	wantTold(t, vector{}, onDiagonal(unit), seen, vector{}, onDiagonal(unit))
}

// K alone: what L makes of P's (1, 0) is more than MaxTop, and is taken off MaxTop, so that nothing is left of it.
func TestUD2TooGreatInKAlone(t *testing.T) {
	const a, b = int64(1) << 22, int64(1)<<42 - 1<<22
	for _, i := range []int{1, 2, 4, 5} {
		p := both(onDiagonal(a, 0, 0, top), place{0, 3, b}, place{i, 0, 1<<42 + 1<<23}, place{i, 3, top}, place{i, i, top})
		seen := polar.Seen{X: 1000 * unit, Y: -7 * unit}
		w, _ := check(t, vector{}, p, seen)
		if w.great != those(stepK) {
			t.Errorf("K: %v", w.great)
		}
		x := vector{0: 1000 * unit, 3: -7 * unit}
		x[i] = 1099513724928000
		wantNext(t, stateOf(vector{}, p), seen, x, table{}, true)
		p = both(p, place{i, 0, 1<<42 + 1<<22})
		x[i] = 1099511627776993
		wantNext(t, stateOf(vector{}, p), seen, x, table{}, false)
	}
}

func TestUD2TooGreatInKTimesVAlone(t *testing.T) {
	for _, i := range []int{1, 2, 4, 5} {
		p := both(onDiagonal(0, unit, unit, 0, unit, unit), place{i, 0, 4 * unit}, place{i, i, 20 * unit})
		want := both(p, place{i, i, 4 * unit})
		for _, c := range []struct {
			v, own, want int64
			great        bool
		}{
			{1 << 60, 0, top, true}, {1<<60 - 1, 0, 1<<62 - 4, false}, {-1 << 60, 0, -top, true}, {1 - 1<<60, 0, 4 - 1<<62, false}, {top, -unit, top - unit, true}, {-top, top, 0, true},
		} {
			steps := which{}
			if c.great {
				steps = those(stepKV)
			}
			var x, wantX vector
			x[i], wantX[i] = c.own, c.want
			seen := polar.Seen{X: c.v, XX: unit, YY: unit}
			wantGreat(t, call("K times V", c), x, p, seen, steps)
			wantNext(t, stateOf(x, p), seen, wantX, want, c.great)
		}
	}
}

func TestUD2TooGreatInXAlone(t *testing.T) {
	for _, i := range []int{1, 2, 4, 5} {
		p := both(onDiagonal(unit, 9*unit, 9*unit, unit, 9*unit, 9*unit), place{i, 0, unit})
		seen := polar.Seen{XX: unit, YY: unit}
		for _, c := range []struct {
			v, own, want int64
			great        bool
		}{
			{2, top, top, true}, {2, top - 1, top, false}, {2, top - 2, top - 1, false}, {-2, top, top - 1, false}, {-2, -top, -top, true}, {-2, 1 - top, -top, false}, {1 << 61, top, top, true}, {-1 << 61, -top, -top, true}, {-1 << 61, top, top - 1<<60, false},
		} {
			steps := which{}
			if c.great {
				steps = those(stepX)
			}
			var x vector
			x[i], seen.X = c.own, c.v
			wantGreat(t, call("X", i, c), x, p, seen, steps)
			got, over, err := update.Next(stateOf(x, p), seen)
			if got.X[i] != c.want || over != c.great || err != nil {
				t.Errorf("X: %d, %v: %v, %v, %v", i, c, got.X, over, err)
			}
		}
	}
	// x itself is moved away from the place by what it shares with y.
	p := both(onDiagonal(0, 0, 0, unit), place{0, 3, unit})
	seen := polar.Seen{X: top, Y: 2, XX: 9 * unit, YY: unit, XY: -unit}
	wantGreat(t, "X of x", vector{0: top}, p, seen, those(stepX))
	seen.Y = -2
	wantGreat(t, "X of x, just not", vector{0: top}, p, seen, which{})
}

// B is too great where K is just not: then others are, too. B's number is bounded ahead of the products.
func TestUD2TooGreatInB(t *testing.T) {
	const b, q = int64(1)<<21 + 1, int64(1)<<21 - 1
	p := both(onDiagonal(0, 5*unit, 0, b*q), place{0, 3, q}, place{0, 1, unit}, place{1, 3, b * unit})
	seen := polar.Seen{XX: 1, YY: b*b + 1 - b*q, XY: b - q}
	w, ok := check(t, vector{}, p, seen)
	if w.great != those(stepB, stepBPB, stepKRK) || !ok {
		t.Errorf("B: %v", w.great)
	}
	want := both(onDiagonal(0, 0, 0, 4194302), place{0, 1, unit - 1}, place{1, 3, 2 * unit})
	wantNext(t, stateOf(vector{}, p), seen, vector{}, want, true)
}

// One of the products, or their sum, alone: P and the place are no spreads that anything could have.
func TestUD2TooGreatInOneOfTheProductsAlone(t *testing.T) {
	for _, c := range []struct {
		step int
		q    square
		want int64 // beside the diagonal, which comes out as noughts
	}{
		{stepBP, square{24, 24, 2, [3]int64{12, -24, 6}, 56}, 144115004824092672},
		{stepBPB, square{2, 7, 0, [3]int64{6, -7, 1}, 56}, 378302368699121664},
		{stepKR, square{10, 36, 18, [3]int64{40, -36, 0}, 56}, -518814479161098240},
		{stepKRK, square{9, -8, 1, [3]int64{5, 8, 0}, 56}, 370581912195170304},
		{stepSum, square{45702, 32992, 0, [3]int64{1747, -32992, 16193}, 46}, 85477986828306112},
	} {
		for _, q := range []square{c.q, c.q.mirrored()} {
			p, seen := q.both()
			wantGreat(t, call("step", c), vector{}, p, seen, those(c.step))
			wantTold(t, vector{}, p, seen, vector{}, both(table{}, place{0, 3, c.want}))
			c.want = -c.want
		}
	}
}

// The first product alone, told beside the diagonal: what was too great stays MaxTop.
func TestUD2TooGreatInBTimesPAlone(t *testing.T) {
	p := both(onDiagonal(1<<59, 0, 0, unit), place{1, 0, 1 << 61}, place{2, 0, -1 << 61})
	seen := polar.Seen{YY: unit}
	want := both(onDiagonal(0, 0, 0, unit/2), place{1, 2, top})
	wantGreat(t, "B times P", vector{}, p, seen, those(stepBP))
	wantTold(t, vector{}, p, seen, vector{}, want)
	p = both(p, place{2, 0, -1 << 59})
	wantGreat(t, "B times P", vector{}, p, seen, those(stepBP))
	p = both(p, place{1, 0, 1 << 59}, place{2, 0, -1 << 59})
	wantGreat(t, "B times P, just not", vector{}, p, seen, which{})
}

// The second product alone, by a number that stands alone: twice what is taken off is too great, once isn't.
func TestUD2TooGreatInBTimesPTimesBAlone(t *testing.T) {
	for _, i := range []int{1, 2, 4, 5} {
		for _, c := range []struct {
			n     int64
			great bool
		}{{1 << 41, false}, {11 << 38, false}, {3 << 40, true}, {-3 << 40, true}, {1<<42 - unit, true}} {
			steps := which{}
			if c.great {
				steps = those(stepBPB)
			}
			p := both(table{}, place{i, 0, c.n})
			wantGreat(t, call("B times P times B", i, c), vector{}, p, polar.Seen{XX: unit << 2, YY: unit}, steps)
		}
	}
}

// All numbers as far as they go.
func TestUD2NumbersAsFarAsTheyGo(t *testing.T) {
	good := 0
	numbers := []int64{0, 1, -1, unit, -unit, 1 << 41, 1 << 61, -1 << 61, top, -top}
	for _, n := range numbers {
		for _, m := range numbers {
			for _, d := range []int64{0, 1, unit, top} {
				var p table
				for i := range 6 {
					for j := range 6 {
						p[i][j] = []int64{n, m, n}[(i+j)%3]
					}
				}
				for i := range 6 {
					p = both(p, place{i, i, d})
				}
				for _, seen := range []polar.Seen{{X: n, Y: m, XX: top, YY: top, XY: -p[0][3]}, {X: m, Y: n, XX: unit, YY: top, XY: -p[0][3]}, {X: m, Y: -m, XX: 1, YY: 1, XY: -p[0][3]}, {X: n, Y: m, XX: top, YY: top}} {
					if _, ok := check(t, vector{-n, n, m, -m, n, m}, p, seen); ok {
						good++
					}
				}
			}
		}
	}
	if good < 1000 {
		t.Errorf("just %d with factors", good)
	}
}
