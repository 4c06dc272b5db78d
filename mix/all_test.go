package mix_test

import (
	"math/big"
	"math/rand"
	"slices"
	"testing"

	"radome/chance"
	"radome/mix"
	"radome/model"
	"radome/predict"
)

// The ordinary case of Join's test, with rows by which each mostly stays as it is; as another program reckoned it.
func TestMX3OfAnOrdinaryCase(t *testing.T) {
	rows := [][]int64{{1020054733, 32212255, 21474836}, {107374182, 912680550, 53687092}, {161061274, 53687091, 858993459}}
	for to, want := range [][]int64{{990044170, 41742681, 41954973}, {83912069, 952294931, 37534824}, {84302111, 84416600, 905023113}} {
		wantShares(t, someChances(), rows, to, want...)
	}
	want := []state{
		{vector{10398691338, -134668536, -1496035, -7462959324, 93075962, -1915778}, table{
			{5101572112, 200850405, 23446355, -1415088192, 148139307, 1154807},
			{200850405, 172410388, 12412938, 78359566, 128201996, 20988666},
			{23446355, 12412938, 8976499, -44663153, 18263269, 5228392},
			{-1415088192, 78359566, -44663153, 3192734693, -1819600, -33012352},
			{148139307, 128201996, 18263269, -1819600, 175605964, 19816791},
			{1154807, 20988666, 5228392, -33012352, 19816791, 6957984},
		}},
		{vector{10657394188, -133141065, 1718392, -7526874531, 91826644, -1037631}, table{
			{11217306397, 158159918, 33219473, -2609509885, 64677373, 93285352},
			{158159918, 225055710, 16026532, -13860999, 29295624, 8402930},
			{33219473, 16026532, 9184569, -45747228, 3406479, -2805006},
			{-2609509885, -13860999, -45747228, 2900880637, -17366764, -13896204},
			{64677373, 29295624, 3406479, -17366764, 207912416, 25643959},
			{93285352, 8402930, -2805006, -13896204, 25643959, 10236721},
		}},
		{vector{10381969062, -131798161, 1732098, -7365912259, 96718659, -1884617}, table{
			{10073757579, -100710114, -62685934, -4979920619, -340717059, 43879795},
			{-100710114, 179434302, -10073492, 289307709, -116984327, -6115617},
			{-62685934, -10073492, 12086870, -11723595, 37528053, 4166926},
			{-4979920619, 289307709, -11723595, 4613613424, -73235244, -64724529},
			{-340717059, -116984327, 37528053, -73235244, 391184546, 34808596},
			{43879795, -6115617, 4166926, -64724529, 34808596, 14233496},
		}},
	}
	wantAll(t, someStates(), someChances(), rows, want, []int64{662873472, 246978094, 163890258}, false)
	checkAll(t, someStates(), someChances(), rows)
}

func TestMX3ByHand(t *testing.T) {
	p := onDiagonal(100*unit, unit, unit, 100*unit, unit, unit)
	a, b := state{vector{0: 0}, p}, state{vector{0: 12 * unit}, p}
	// To the first comes all of it, and half of the second: two thirds and one.
	got, then, over, err := mix.All(given([]state{a, b}), []int64{half, half}, [][]int64{{one, 0}, {half, half}})
	if len(got) != 2 || got[1] != b.given() || !slices.Equal(then, []int64{3 * quarter, quarter}) || over || err != nil {
		t.Fatalf("All: %v, %v, %v, %v", got, then, over, err)
	}
	if got[0].X != (vector{0: 4 * unit}) || got[0].P.A[0] != 132*unit {
		t.Errorf("All: %v", got[0])
	}
	// By halves each becomes the same.
	even := state{vector{0: 6 * unit}, both(p, place{0, 0, 136 * unit})}
	wantAll(t, []state{a, b}, []int64{half, half}, sameRows([]int64{quarter, 3 * quarter}, 2), []state{even, even}, []int64{quarter, 3 * quarter}, false)
	// One becomes the other.
	wantAll(t, []state{a, b}, []int64{quarter, 3 * quarter}, [][]int64{{0, one}, {one, 0}}, []state{b, a}, []int64{3 * quarter, quarter}, false)
	// Three that follow each other round.
	c := state{vector{3: 5 * unit}, p}
	wantAll(t, []state{a, b, c}, []int64{half, quarter, quarter}, [][]int64{{0, one, 0}, {0, 0, one}, {one, 0, 0}}, []state{c, a, b}, []int64{quarter, half, quarter}, false)
	// One alone.
	wantAll(t, []state{b}, []int64{one}, [][]int64{{one}}, []state{b}, []int64{one}, false)
}

// By rows by which each becomes itself nothing changes, chances of 0 too; whether something was too great is still told, if they are so far from each other.
func TestMX3EachBecomesItself(t *testing.T) {
	r := rand.New(rand.NewSource(14))
	for i := range 2000 {
		count := 1 + i%4
		l, chances := randomStates(r, count), randomChances(r, count)
		var w way
		for place := range count {
			w.join(l, alone(place, count))
		}
		wantAll(t, l, chances, itself(count), l, chances, w.great != which{})
	}
	wantAll(t, someStates(), someChances(), itself(3), someStates(), someChances(), false)
	wantAll(t, someStates(), alone(1, 3), itself(3), someStates(), alone(1, 3), false)
	far := []state{{}, {x: vector{1 << 41}}}
	wantAll(t, far, alone(0, 2), itself(2), far, alone(0, 2), true)
	far[1].x[0]--
	wantAll(t, far, alone(0, 2), itself(2), far, alone(0, 2), false)
}

// Where all become one, that one is the Join by the chances as they were, and all others are as they were.
func TestMX3AllBecomeOne(t *testing.T) {
	r := rand.New(rand.NewSource(15))
	for i := range 2000 {
		count := 1 + i%4
		l, chances := randomStates(r, count), randomChances(r, count)
		place := r.Intn(count)
		want := slices.Clone(l)
		var w way
		want[place] = w.join(l, chances)
		for other := range count {
			if other != place {
				w.join(l, alone(other, count))
			}
		}
		wantAll(t, l, chances, sameRows(alone(place, count), count), want, alone(place, count), w.great != which{})
	}
}

// Each state is the Join by the Shares to its place, and the chances are layer 14's Mix: not those that there were.
func TestMX3ByTheOtherCalls(t *testing.T) {
	r := rand.New(rand.NewSource(16))
	for i := range 2000 {
		count := 1 + i%4
		l, chances, rows := given(randomStates(r, count)), randomChances(r, count), randomRows(r, count)
		got, then, over, err := mix.All(l, chances, rows)
		wantThen, err2 := chance.Mix(chances, rows)
		if len(got) != count || !slices.Equal(then, wantThen) || err != nil || err2 != nil {
			t.Fatalf("All(%v, %v, %v): %v, %v, %v; want %v", l, chances, rows, got, then, err, wantThen)
		}
		great := false
		for to := range got {
			shares, err := mix.Shares(chances, rows, to)
			want, more, err2 := mix.Join(l, shares)
			great = great || more
			if got[to] != want || err != nil || err2 != nil {
				t.Errorf("All(%v, %v, %v): %v at %d; want %v", l, chances, rows, got[to], to, want)
			}
		}
		if over != great {
			t.Errorf("All(%v, %v, %v): %v; want %v", l, chances, rows, over, great)
		}
	}
}

func TestMX3OfRandomStates(t *testing.T) {
	r := rand.New(rand.NewSource(17))
	count := map[bool]int{}
	for i := range 2500 {
		many := 1 + i%4
		w := checkAll(t, randomStates(r, many), randomChances(r, many), randomRows(r, many))
		count[w.great != which{}]++
	}
	if count[true] < 500 || count[false] < 500 {
		t.Errorf("so many too great: %v", count)
	}
}

// P3: chances after a change sum to one to the last bit, and are off by less than a last bit.
func TestMX3AndP3ChancesAfterAChange(t *testing.T) {
	r := rand.New(rand.NewSource(18))
	for i := range 8000 {
		count := 1 + i%4
		chances, rows := randomChances(r, count), randomRows(r, count)
		_, then, _, err := mix.All(nothings(count), chances, rows)
		if err != nil {
			t.Fatal(err)
		}
		wantChances(t, call("All", chances, rows), then, count)
		for to, n := range then {
			off := new(big.Int).Mul(big.NewInt(n), big.NewInt(one))
			if off.Sub(off, summed(chances, column(rows, to))).CmpAbs(big.NewInt(one)) >= 0 {
				t.Errorf("All(%v, %v): %v is off by a last bit or more", chances, rows, then)
			}
		}
	}
}

// nothings are so many states of noughts.
func nothings(count int) []predict.State { return given(make([]state, count)) }

// What is mixed is, taken together, where it was, and as unsure: nothing is lost but last bits.
func TestMX3TogetherAsItWas(t *testing.T) {
	r := rand.New(rand.NewSource(19))
	for i := range 4000 {
		count := 1 + i%4
		l := make([]state, count)
		for k := range l {
			for i := range 6 { // within some kilometres
				l[k].x[i] = random(r, 32)
				for j := range i {
					l[k].p = both(l[k].p, place{i, j, random(r, 40)})
				}
				l[k].p = both(l[k].p, place{i, i, r.Int63n(1 << 40)})
			}
		}
		chances, rows := randomChances(r, count), randomRows(r, count)
		before, over, err := mix.Join(given(l), chances)
		mixed, then, over2, err2 := mix.All(given(l), chances, rows)
		after, over3, err3 := mix.Join(mixed, then)
		if over || over2 || over3 || err != nil || err2 != nil || err3 != nil {
			t.Fatalf("%v, %v, %v: %v, %v, %v", l, chances, rows, err, err2, err3)
		}
		for k := range 6 {
			if off := after.X[k] - before.X[k]; off > 64 || off < -64 {
				t.Errorf("All(%v, %v, %v): X %v, then %v", l, chances, rows, before.X, after.X)
			}
			// A last bit of a chance is 2^-30 of what is up to 2^46 here.
			if off := after.P.A[7*k] - before.P.A[7*k]; off > 1<<19 || off < -1<<19 {
				t.Errorf("All(%v, %v, %v): P %v, then %v", l, chances, rows, before.P, after.P)
			}
		}
	}
}

// narrowed are rows of so many: what leads to others stays where it is.
func narrowed(rows [][]int64, count int) [][]int64 {
	out := make([][]int64, count)
	for i := range out {
		out[i] = slices.Clone(rows[i][:count])
		for _, n := range rows[i][count:] {
			out[i][i] += n
		}
	}
	return out
}

// What is answered may be handed in again, and so it goes on, with steps of layers 11 and 12 in between: an aircraft that is followed by four models.
func TestMX3AgainAndAgain(t *testing.T) {
	models := []model.Model{{Kind: model.Still, Noise: unit}, {Kind: model.Pushed, Noise: unit}, {Kind: model.Left, Rate: 1 << 26, Noise: unit}, {Kind: model.Right, Rate: 1 << 26, Noise: unit}}
	rows := [][]int64{{one - 3*eighth/4, eighth / 4, eighth / 4, eighth / 4}, {eighth, one - 3*eighth, eighth, eighth}, {quarter, 0, 3 * quarter, 0}, {quarter, 0, 0, 3 * quarter}}
	for count := 1; count <= 4; count++ {
		start, err := predict.Blank(20000*unit, -5000*unit, 150*unit, 80*unit, 2500*unit, 10000*unit, 100*unit)
		if err != nil {
			t.Fatal(err)
		}
		l, chances := slices.Repeat([]predict.State{start}, count), alone(0, count)
		for range 20 {
			var over bool
			if l, chances, over, err = mix.All(l, chances, narrowed(rows, count)); over || err != nil || chance.Check(chances, 0) != nil {
				t.Fatalf("%v, %v, %v, %v", l, chances, over, err)
			}
			for k, s := range l {
				step, _, err := model.Step(models[k], 4*unit)
				noise, _, err2 := model.Noise(models[k], 4*unit)
				next, _, err3 := predict.Next(s, step, noise)
				if predict.Check(s) != nil || err != nil || err2 != nil || err3 != nil {
					t.Fatalf("%v: %v, %v, %v", s, err, err2, err3)
				}
				l[k] = next
			}
		}
	}
}
