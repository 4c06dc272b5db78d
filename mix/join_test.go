package mix_test

import (
	"math/rand"
	"slices"
	"testing"

	"radome/mat"
	"radome/mix"
	"radome/predict"
	"radome/vec"
)

// someStates are three of an ordinary flight; what becomes of them stands below, as another program reckoned it.
func someStates() []state {
	return []state{
		{vector{10388240267, -134875238, -1793682, -7464914768, 92952486, -1955547}, table{
			{1695255598, 201197811, -7766959, -446074731, 190678545, -14752768},
			{201197811, 169253064, 12659509, 62771148, 144051340, 22792735},
			{-7766959, 12659509, 7816550, -52835986, 17553672, 5496898},
			{-446074731, 62771148, -52835986, 2524104068, -17665785, -30179963},
			{190678545, 144051340, 17553672, -17665785, 162973852, 18866474},
			{-14752768, 22792735, 5496898, -30179963, 18866474, 6426300},
		}},
		{vector{10693133784, -133057114, 2015417, -7539680844, 91501613, -920079}, table{
			{1608743512, 142629029, -45167197, 1087246897, 168907806, 70342712},
			{142629029, 231596049, 17020029, -34550568, 26324935, 7777584},
			{-45167197, 17020029, 8083146, -25625446, 1014576, -4129228},
			{1087246897, -34550568, -25625446, 1226003007, -59573618, 2004782},
			{168907806, 26324935, 1014576, -59573618, 201844800, 26093678},
			{70342712, 7777584, -4129228, 2004782, 26093678, 10258691},
		}},
		{vector{10352360820, -131394104, 2034095, -7340481888, 97556098, -1967978}, table{
			{2191365319, -103559534, -66786223, -385109848, -267601755, 17860750},
			{-103559534, 174379452, -15766626, 284295668, -156603264, -9983550},
			{-66786223, -15766626, 11659673, -40550486, 41505162, 4794354},
			{-385109848, 284295668, -40550486, 950751003, -213760813, -57859307},
			{-267601755, -156603264, 41505162, -213760813, 425752987, 37596948},
			{17860750, -9983550, 4794354, -57859307, 37596948, 15241651},
		}},
	}
}

// someChances are theirs.
func someChances() []int64 { return []int64{643371375, 257698038, 172672411} }

func TestMX2OfAnOrdinaryCase(t *testing.T) {
	want := state{vector{10455644804, -133879074, -263939, -7462848113, 93344600, -1709034}, table{
		{18895676284, 181818466, 120184619, -6103347940, -40030546, 67396601},
		{181818466, 186708498, 11310118, 108394204, 68929122, 14108289},
		{120184619, 11310118, 11834823, -39480918, 18301568, 3609475},
		{-6103347940, 108394204, -39480918, 5609528039, 52650034, -45349473},
		{-40030546, 68929122, 18301568, 52650034, 218146820, 23168303},
		{67396601, 14108289, 3609475, -45349473, 23168303, 8951179},
	}}
	wantJoin(t, someStates(), someChances(), want, false)
	checkJoin(t, someStates(), someChances())
}

// At 0 and at 10 m, by halves: at 5 m, 25 square metres less sure.
func TestMX2TheExample(t *testing.T) {
	for i := range 6 {
		a, err := predict.Blank(0, 0, 0, 0, 100*unit, 9*unit, unit)
		if err != nil {
			t.Fatal(err)
		}
		b, want := a, a
		b.X[i], want.X[i] = 10*unit, 5*unit
		want.P.A[7*i] += 25 * unit
		for _, l := range [][]predict.State{{a, b}, {b, a}} {
			if got, over, err := mix.Join(l, []int64{half, half}); got != want || over || err != nil {
				t.Errorf("Join(%v): %v, %v, %v; want %v", l, got, over, err, want)
			}
		}
	}
}

// One state alone is itself, whatever it is; so is one for sure, if the others are not so far that something is too great.
func TestMX2OneForSure(t *testing.T) {
	r := rand.New(rand.NewSource(7))
	for range 400 {
		s := randomState(r, 1+r.Intn(62))
		wantJoin(t, []state{s}, []int64{one}, s, false)
		for count := 2; count <= 4; count++ {
			l := make([]state, count)
			for i := range l {
				l[i] = state{randomState(r, 1+r.Intn(20)).x, s.p}
				for j := range 6 {
					l[i].p = with(l[i].p, place{j, j, s.p[j][j] / 2})
					for k := range j {
						l[i].p = both(l[i].p, place{j, k, s.p[j][k] / 2})
					}
				}
			}
			for place := range l {
				wantJoin(t, l, alone(place, count), l[place], checkJoin(t, l, alone(place, count)).great != which{})
			}
		}
	}
	for place := range 3 {
		wantJoin(t, someStates(), alone(place, 3), someStates()[place], false)
	}
	for i := range 6 {
		for _, n := range []int64{0, 1, -1, top - 1, 1 - top, top, -top} {
			x := allOf(7)
			x[i] = n
			p := onDiagonal(1, 2, 3, 4, 5, 6)
			wantJoin(t, []state{{x, p}}, []int64{one}, state{x, p}, false)
			for j := range 6 {
				if i != j || n >= 0 {
					q := both(p, place{i, j, n})
					wantJoin(t, []state{{x, q}}, []int64{one}, state{x, q}, false)
				}
			}
		}
	}
}

// By a quarter and three quarters, two ways at once: what is away by both makes them hang together.
func TestMX2ByHand(t *testing.T) {
	for i := range 6 {
		for j := range 6 {
			if i == j {
				continue
			}
			a, b, want := state{p: onDiagonal(8, 8, 8, 8, 8, 8)}, state{p: onDiagonal(16, 16, 16, 16, 16, 16)}, state{p: onDiagonal(14, 14, 14, 14, 14, 14)}
			a.x[i], a.x[j] = 40*unit, -8*unit // 30 and -6 away, and -10 and 2
			want.x[i], want.x[j] = 10*unit, -2*unit
			a.p, b.p = both(a.p, place{i, j, 4 * unit}), both(b.p, place{i, j, -4 * unit})
			want.p = both(want.p, place{i, i, 300*unit + 14}, place{j, j, 12*unit + 14}, place{i, j, -62 * unit})
			wantJoin(t, []state{a, b}, []int64{quarter, 3 * quarter}, want, false)
			wantJoin(t, []state{b, a}, []int64{3 * quarter, quarter}, want, false)
		}
	}
	// Four at the corners of a square, by quarters; and three by a half and two quarters.
	p := onDiagonal(unit, unit, unit, unit, unit, unit)
	corners := []state{{vector{0: 4 * unit}, p}, {vector{0: -4 * unit}, p}, {vector{3: 4 * unit}, p}, {vector{3: -4 * unit}, p}}
	wantJoin(t, corners, []int64{quarter, quarter, quarter, quarter}, state{vector{}, both(p, place{0, 0, 9 * unit}, place{3, 3, 9 * unit})}, false)
	wantJoin(t, corners[:3], []int64{quarter, quarter, half}, state{vector{3: 2 * unit}, both(p, place{0, 0, 9 * unit}, place{3, 3, 5 * unit})}, false)
	wantJoin(t, corners[1:], []int64{half, quarter, quarter}, state{vector{0: -2 * unit}, both(p, place{0, 0, 5 * unit}, place{3, 3, 9 * unit})}, false)
	wantJoin(t, corners, []int64{half, 0, half, 0}, state{vector{2 * unit, 0, 0, 2 * unit}, both(p, place{0, 0, 5 * unit}, place{3, 3, 5 * unit}, place{0, 3, -4 * unit})}, false)
}

// Of X and of P the sum of all is rounded once: a quarter of each of two is a half, and none; of three it is three quarters, and one.
func TestMX2RoundedOnce(t *testing.T) {
	quarters := []int64{quarter, quarter, quarter, quarter}
	for i := range 6 {
		for _, c := range [][5]int64{
			{0, 0, 0, 0, 0}, {1, 0, 0, 0, 0}, {1, 1, 0, 0, 0}, {1, 1, 1, 0, 1}, {1, 1, 1, 1, 1}, {2, 1, 1, 1, 1}, {2, 2, 1, 1, 2}, {3, 2, 1, 1, 2}, {3, 3, 2, 2, 2}, {3, 3, 3, 2, 3},
			{-1, 0, 0, 0, 0}, {-1, -1, 0, 0, 0}, {-1, -1, -1, 0, -1}, {-2, -2, -1, -1, -2}, {-3, -3, -2, -2, -2}, {1, -2, 1, 1, 0}, {5, -1, -1, -1, 0}, {5, 0, -1, -1, 1},
		} {
			r := rand.New(rand.NewSource(8))
			for range 4 {
				order := r.Perm(4)
				var byX, byP, byBoth []state
				for _, k := range order {
					var x vector
					x[i] = c[k]
					byX = append(byX, state{x: x})
					byP = append(byP, state{p: both(onDiagonal(9, 9, 9, 9, 9, 9), place{i, (i + 1) % 6, c[k]})})
					byBoth = append(byBoth, state{p: both(table{}, place{i, i, max(c[k], -c[k])})})
				}
				var x vector
				x[i] = c[4]
				wantJoin(t, byX, quarters, state{x: x}, false)
				wantJoin(t, byP, quarters, state{p: both(onDiagonal(9, 9, 9, 9, 9, 9), place{i, (i + 1) % 6, c[4]})}, false)
				checkJoin(t, byBoth, quarters)
			}
		}
	}
	for _, c := range []struct {
		a, b, want int64
		chance     int64
	}{
		{1, 0, 0, half}, {1, 2, 2, half}, {3, 2, 2, half}, {3, 4, 4, half}, {-1, 0, 0, half}, {-1, -2, -2, half}, {-3, -2, -2, half}, {-1, 2, 0, half}, {-1, 4, 2, half}, {-5, 0, -2, half}, // a half: to the even one
		{1, 0, 1, half + 1}, {1, 0, 0, half - 1}, {2, 1, 2, half + 1}, {2, 1, 1, half - 1}, {-1, 0, -1, half + 1}, {-1, 0, 0, half - 1}, {-2, -1, -2, half + 1}, {-2, -1, -1, half - 1}, // just beside
		{one, 0, 1, 1}, {half, 0, 0, 1}, {half + 1, 0, 1, 1}, {one + half, 0, 2, 1}, {-half, 0, 0, 1}, {-half - 1, 0, -1, 1},
	} {
		for i := range 6 {
			var x, wantX vector
			x[i], wantX[i] = c.a, c.want
			var y vector
			y[i] = c.b
			if w := checkJoin(t, []state{{x: x}, {x: y}}, []int64{c.chance, one - c.chance}); c.chance == half && w.half[stepX] != ((c.a-c.b)%2 != 0) {
				t.Errorf("%v: halves in %v", c, w.half)
			}
			got, _, err := mix.Join(given([]state{{x: x}, {x: y}}), []int64{c.chance, one - c.chance})
			if got.X != wantX || err != nil {
				t.Errorf("%v: %v, %v; want %v", c, got.X, err, wantX)
			}
			for j := range i {
				p, q := both(table{}, place{i, j, c.a}), both(table{}, place{i, j, c.b})
				wantJoin(t, []state{{p: p}, {p: q}}, []int64{c.chance, one - c.chance}, state{p: both(table{}, place{i, j, c.want})}, false)
			}
			if c.a >= 0 && c.b >= 0 {
				p, q := both(table{}, place{i, i, c.a}), both(table{}, place{i, i, c.b})
				wantJoin(t, []state{{p: p}, {p: q}}, []int64{c.chance, one - c.chance}, state{p: both(table{}, place{i, i, c.want})}, false)
			}
		}
	}
}

// d times d is rounded by itself, ahead of the sum: a half is none, one and a half are two; and a sum that would be more than a half is just a half, and so none.
func TestMX2DTimesDIsRoundedByItself(t *testing.T) {
	for i := range 6 {
		for j := range 6 {
			if i == j {
				continue
			}
			for _, c := range [][3]int64{{1, unit / 2, 0}, {1, unit/2 + 1, 1}, {1, unit/2 - 1, 0}, {3, unit / 2, 2}, {5, unit / 2, 2}, {7, unit / 2, 4}, {-1, unit / 2, 0}, {-3, unit / 2, -2}, {-5, unit / 2, -2}, {1, -unit/2 - 1, -1}} {
				a, b := state{}, state{}
				a.x[i], a.x[j], b.x[i], b.x[j] = c[0], c[1], -c[0], -c[1]
				w := checkJoin(t, []state{a, b}, []int64{half, half})
				got, over, err := mix.Join(given([]state{a, b}), []int64{half, half})
				if n := got.P.A[6*i+j]; n != c[2] || over || err != nil || w.half[stepOuter] != (c[1] == unit/2) {
					t.Errorf("%v: %d, %v, %v", c, n, over, err)
				}
			}
			// 0.17 and 1.53, by three quarters and a quarter: none and two are a half.
			a, b := state{}, state{}
			b.x[i], b.x[j] = 4, 4*178258
			checkJoin(t, []state{a, b}, []int64{3 * quarter, quarter})
			got, over, err := mix.Join(given([]state{a, b}), []int64{3 * quarter, quarter})
			if n := got.P.A[6*i+j]; n != 0 || over || err != nil {
				t.Errorf("d times d: %d, %v, %v", n, over, err)
			}
		}
	}
}

// d is taken from X as it is rounded: by halves 1 and 0 are at 0, so one is 1 away, and the other is not.
func TestMX2DIsTakenFromXAsItIsRounded(t *testing.T) {
	for i := range 6 {
		for j := range 6 {
			if i == j {
				continue
			}
			a, b := state{}, state{}
			a.x[i], a.x[j] = 1, 4*unit
			want := state{p: both(table{}, place{j, j, 4 * unit}, place{i, j, 1})}
			want.x[j] = 2 * unit
			wantJoin(t, []state{a, b}, []int64{half, half}, want, false)
			a.x[i] = 3 // and 3 and 0 are at 2: 1 and -2 away, so that 3 are left
			want.x[i], want.p = 2, both(want.p, place{i, j, 3})
			wantJoin(t, []state{a, b}, []int64{half, half}, want, false)
		}
	}
}

// No number on the diagonal comes out below 0, where noughts stand beside numbers of any size.
func TestMX2TheDiagonalIsNotBelowNought(t *testing.T) {
	r := rand.New(rand.NewSource(9))
	for i := range 4000 {
		count := 1 + i%4
		l := randomStates(r, count)
		for k := range l {
			for j := range 6 {
				if r.Intn(3) > 0 {
					l[k].p = both(l[k].p, place{j, j, 0})
				}
			}
		}
		chances := randomChances(r, count)
		checkJoin(t, l, chances)
		got, _, err := mix.Join(given(l), chances)
		if err != nil || predict.Check(got) != nil {
			t.Fatalf("Join(%v, %v): %v, %v", l, chances, got, err)
		}
		for j := range 6 {
			if got.P.A[7*j] < 0 {
				t.Errorf("Join(%v, %v): %v", l, chances, got)
			}
		}
	}
	wantJoin(t, []state{{p: both(table{}, place{0, 1, -top}, place{2, 3, top})}, {p: both(table{}, place{0, 1, -top}, place{4, 5, -top})}}, []int64{half, half}, state{p: both(table{}, place{0, 1, -top}, place{2, 3, 1 << 61}, place{4, 5, -1 << 61})}, false)
}

// Edges of X and of P at each place, on both sides, by chances that are edges too.
func TestMX2OfEdges(t *testing.T) {
	all := edges()
	chances := [][]int64{{one, 0}, {0, one}, {half, half}, {1, one - 1}, {one - 1, 1}, {half + 1, half - 1}}
	for k, n := range all {
		m := all[(k*7+3)%len(all)]
		for i := range 6 {
			for _, l := range chances {
				x, y := allOf(5), allOf(-7)
				x[i], y[i] = n, m
				checkJoin(t, []state{{x: x}, {x: y}}, l)
				for _, j := range []int{i, (i + 1) % 6, (i + 3) % 6} {
					a, b := n, m
					if i == j {
						a, b = max(n, -n), max(m, -m)
					}
					checkJoin(t, []state{{p: both(table{}, place{i, j, a})}, {x: vector{unit, unit}, p: both(table{}, place{i, j, b})}}, l)
				}
			}
		}
	}
}

func TestMX2OfRandomStates(t *testing.T) {
	r := rand.New(rand.NewSource(10))
	var halves [allSteps]int
	for i := range 5000 {
		count := 1 + i%4
		w := checkJoin(t, randomStates(r, count), randomChances(r, count))
		for step, half := range w.half {
			if half {
				halves[step]++
			}
		}
	}
	for _, step := range []int{stepX, stepOuter, stepSum} {
		if halves[step] < 50 {
			t.Errorf("just %d halves in step %d", halves[step], step)
		}
	}
	if halves[stepAway]+halves[stepAdd]+halves[stepEven] > 0 {
		t.Errorf("halves: %v", halves) // of these numbers two are halved nowhere but in the middle, and that is of the same
	}
}

// Of three or four states that are handed in in another order the same becomes.
func TestMX2InAnotherOrder(t *testing.T) {
	r := rand.New(rand.NewSource(11))
	for i := range 1000 {
		count := 2 + i%3
		l, chances := randomStates(r, count), randomChances(r, count)
		want, great, err := mix.Join(given(l), chances)
		var other []state
		var otherChances []int64
		for _, k := range r.Perm(count) {
			other, otherChances = append(other, l[k]), append(otherChances, chances[k])
		}
		got, over, err2 := mix.Join(given(other), otherChances)
		if got != want || over != great || err != nil || err2 != nil {
			t.Errorf("Join(%v, %v): %v, %v; in another order %v, %v", l, chances, want, great, got, over)
		}
	}
}

// The calls that the chapter names, one by one, tell the same.
func TestMX2ByTheCallsBelow(t *testing.T) {
	r := rand.New(rand.NewSource(12))
	for i := range 1000 {
		count := 1 + i%4
		l, chances := given(randomStates(r, count)), randomChances(r, count)
		var xs [][]int64
		for _, s := range l {
			xs = append(xs, slices.Clone(s.X[:]))
		}
		x, great, err := vec.Join(xs, chances)
		if err != nil {
			t.Fatal(err)
		}
		numbers := make([][]int64, 36)
		for _, s := range l {
			d, over, _ := vec.Sub(s.X[:], x)
			m, over2, _ := mat.Outer(d, d)
			m, over3, _ := mat.Add(s.P, m)
			great = great || over || over2 || over3
			for k, n := range m.A {
				numbers[k] = append(numbers[k], n)
			}
		}
		got, over, err := mix.Join(l, chances)
		if !slices.Equal(got.X[:], x) || over != great || err != nil {
			t.Errorf("Join(%v, %v): %v, %v, %v; want %v, %v", l, chances, got.X, over, err, x, great)
		}
		var w way
		for k, n := range got.P.A {
			if want := w.near(numbers[k], chances, 30); n != want {
				t.Errorf("Join(%v, %v): %d at %d; want %d", l, chances, n, k, want)
			}
		}
	}
}
