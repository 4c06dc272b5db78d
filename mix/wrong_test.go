package mix_test

import (
	"math/rand"
	"slices"
	"testing"

	"radome/api"
	"radome/mat"
	"radome/mix"
	"radome/predict"
)

func TestTheBoundIsMaxTop(t *testing.T) {
	if api.MaxTop != top || top != 4611686018427387903 || 1<<api.Prob != one || 1<<api.Frac != unit || api.MaxModels != 4 {
		t.Errorf("MaxTop: %d", int64(api.MaxTop))
	}
}

// wrongStates are such as may not be, by their P's size, by one number that is not the same turned, by one below 0 on the diagonal, or by one beyond MaxTop's size.
func wrongStates() []predict.State {
	base := someStates()[0]
	out := []predict.State{{}}
	for _, size := range [][2]int{{0, 0}, {1, 1}, {5, 5}, {5, 6}, {6, 5}, {4, 9}, {9, 4}, {36, 1}, {7, 7}, {-6, -6}, {6, 0}, {0, 6}, {1<<32 + 6, 6}, {6, most}, {least, 6}} {
		for _, s := range []predict.State{{}, base.given()} {
			s.P.Rows, s.P.Cols = size[0], size[1]
			out = append(out, s)
		}
		out = append(out, predict.State{X: base.x, P: mat.Mat{Rows: size[0], Cols: size[1]}})
	}
	for i := range 6 {
		for _, n := range beyond {
			s := base
			s.x[i] = n
			out = append(out, s.given(), state{x: s.x}.given())
		}
		for j := range 6 {
			for _, s := range wrongAt(base, i, j) {
				out = append(out, s.given())
			}
		}
	}
	return out
}

// wrongAt are states of which one number of P is wrong.
func wrongAt(base state, i, j int) []state {
	var out []state
	for _, n := range beyond {
		out = append(out, state{base.x, both(base.p, place{i, j, n})}, state{base.x, with(base.p, place{i, j, n})})
	}
	others := []int64{-1, -2, -unit, 1 - top, -top}
	if i != j {
		others = []int64{base.p[i][j] - 1, base.p[i][j] + 1, -base.p[i][j], base.p[i][j] ^ 1<<40}
	}
	for _, n := range others {
		out = append(out, state{base.x, with(base.p, place{i, j, n})}, state{p: with(table{}, place{i, j, n})})
	}
	return out
}

// wrongChances are numbers that are no chances, however many there are to be.
func wrongChances() [][]int64 {
	return [][]int64{
		nil, {}, make([]int64, 0, 4), {0}, {0, 0}, {0, 0, 0}, {0, 0, 0, 0}, // none, or nothing
		{0, 0, 0, 0, one}, {one, 0, 0, 0, 0}, {quarter, quarter, quarter, eighth, eighth}, make([]int64, 64), // too many
		{one + 1}, {one - 1}, {2 * one}, {-one}, {1}, {top}, {most}, {least}, {one + 1<<32}, // one that is not all
		{half, half + 1}, {half - 1, half}, {one, 1}, {1, one}, {0, one - 1}, {357913942, 357913942, 357913941}, {357913941, 357913941, 357913941}, {quarter, quarter, quarter, quarter + 1}, {quarter - 1, quarter, quarter, quarter}, {one, one, one, one}, // one more or one less
		{-1, one + 1}, {one + 1, -1}, {one, 1, -1}, {one, -1, 1}, {-1, one, 0, 1}, {0, one, 1, -1}, {-one, 2 * one}, {-1, -1, one + 2}, {half, one, -half}, {top, one - top}, {-top, one + top}, // one below 0
		{most, least + 1 + one}, {one + 1, most, least}, {most, -most, one}, {most, most, 2, one}, {one, 2, most, most}, {1 << 62, 1 << 62, 1 << 62, 1<<62 + one}, {least, least, one}, {least, 0, one, least}, {most, 1, least, one}, // the sum wraps round to 2^30
	}
}

// wrongPlaces are such as are not among so many.
func wrongPlaces(count int) []int {
	return []int{-1, -2, -count, -count - 1, count, count + 1, 2 * count, 64, -64, 1 << 32, -1 << 32, 1<<32 + count - 1, 1<<32 - 1, most, most - 1, least, least + 1}
}

// A state that may not be is found at each place, where its chance is 0 too.
func TestMX2AndMX3WrongStates(t *testing.T) {
	r := rand.New(rand.NewSource(22))
	for _, s := range wrongStates() {
		for count := 1; count <= 4; count++ {
			for place := range count {
				l := given(randomStates(r, count))
				l[place] = s
				for _, chances := range [][]int64{randomChances(r, count), alone(place, count), alone((place+1)%count, count)} {
					wantNoJoin(t, l, chances)
					wantNoAll(t, l, chances, itself(count))
				}
			}
		}
	}
}

// From 1 to 4 states, and as many chances: neither more nor fewer.
func TestMX2AndMX3WrongManyStates(t *testing.T) {
	s := someStates()[0].given()
	for count := range 8 {
		for many := range 8 {
			l := slices.Repeat([]predict.State{s}, count)
			var chances []int64
			if many > 0 {
				chances = append(alone(0, many), alone(many-1, many)...)[:many]
			}
			for rows := range 6 {
				if count != many || count < 1 || count > 4 || rows != count {
					wantNoAll(t, l, chances, itself(rows))
				}
			}
			if count == many && count >= 1 && count <= 4 {
				if got, over, err := mix.Join(l, chances); got != s || over || err != nil {
					t.Errorf("Join of %d: %v, %v, %v", count, got, over, err)
				}
				if got, then, over, err := mix.All(l, chances, itself(count)); !slices.Equal(got, l) || !slices.Equal(then, chances) || over || err != nil {
					t.Errorf("All of %d: %v, %v, %v, %v", count, got, then, over, err)
				}
				continue
			}
			wantNoJoin(t, l, chances)
		}
	}
	wantNoJoin(t, slices.Repeat([]predict.State{s}, 5), []int64{quarter, quarter, quarter, eighth, eighth})
	wantNoJoin(t, nil, []int64{one})
	wantNoJoin(t, []predict.State{s}, nil)
}

func TestMX1AndMX2AndMX3WrongChances(t *testing.T) {
	r := rand.New(rand.NewSource(23))
	for _, chances := range wrongChances() {
		for count := range 6 {
			l := given(randomStates(r, max(count, 1)))[:count]
			rows := randomRows(r, max(count, 1))[:count]
			wantNoJoin(t, l, chances)
			wantNoAll(t, l, chances, rows)
			for to := range max(count, 1) {
				wantNoShares(t, chances, rows, to)
			}
		}
		l := given(randomStates(r, max(len(chances), 1)))
		wantNoJoin(t, l, chances)
		wantNoAll(t, l, chances, itself(len(chances)))
		wantNoShares(t, chances, itself(len(chances)), 0)
		wantNoShares(t, chances, itself(len(chances)), max(len(chances)-1, 0))
	}
}

// As many rows as there are chances, each of as many numbers.
func TestMX1AndMX3WrongManyRows(t *testing.T) {
	r := rand.New(rand.NewSource(24))
	for many := 1; many <= 4; many++ {
		chances, l := randomChances(r, many), given(randomStates(r, many))
		for count := range 7 {
			for long := range 7 {
				if count == many && long == many {
					continue
				}
				rows := make([][]int64, count)
				for i := range rows {
					if long > 0 {
						rows[i] = randomChances(r, long)
					}
				}
				wantNoAll(t, l, chances, rows)
				for to := range 6 {
					wantNoShares(t, chances, rows, to)
				}
			}
		}
		for _, rows := range [][][]int64{nil, {}, make([][]int64, many), append(itself(many), alone(0, many)), append(itself(many), nil), itself(many)[:many-1], slices.Repeat(itself(many), 2)} {
			wantNoAll(t, l, chances, rows)
			for to := range len(rows) + 1 {
				wantNoShares(t, chances, rows, to)
			}
		}
	}
}

// A row that is wrong is found at each place, where its chance is 0 too, and where the shares to another place are asked for.
func TestMX1AndMX3WrongRows(t *testing.T) {
	r := rand.New(rand.NewSource(25))
	for many := 1; many <= 4; many++ {
		for place := range many {
			good := randomChances(r, many)
			wrong := append(wrongChances(), append(slices.Clone(good), 0), append([]int64{0}, good...), alone(0, many+1))
			if many > 1 {
				wrong = append(wrong, alone(0, many-1), randomChances(r, many-1))
			}
			for k := range many { // one number of it alone
				for _, by := range []int64{1, -1, one, -one, 1 << 32, least, top} {
					changed := slices.Clone(good)
					changed[k] += by
					wrong = append(wrong, changed)
				}
			}
			for _, row := range wrong {
				rows := randomRows(r, many)
				rows[place] = row
				for _, chances := range [][]int64{randomChances(r, many), alone(place, many), alone((place+1)%many, many)} {
					wantNoAll(t, given(randomStates(r, many)), chances, rows)
					for to := range many {
						wantNoShares(t, chances, rows, to)
					}
				}
			}
		}
	}
}

func TestMX1WrongPlaces(t *testing.T) {
	r := rand.New(rand.NewSource(26))
	for count := 1; count <= 4; count++ {
		for _, to := range wrongPlaces(count) {
			wantNoShares(t, randomChances(r, count), randomRows(r, count), to)
			wantNoShares(t, alone(0, count), itself(count), to)
			wantNoShares(t, alone(count-1, count), sameRows(alone(0, count), count), to)
		}
		for to := range count { // these are all there are
			if got, err := mix.Shares(randomChances(r, count), randomRows(r, count), to); len(got) != count || err != nil {
				t.Errorf("Shares to %d of %d: %v, %v", to, count, got, err)
			}
		}
	}
}

// Several wrong at once: the error is the same one, and nothing stands beside it, where something is too great as well.
func TestMX1AndMX2AndMX3SeveralWrong(t *testing.T) {
	states, chances := wrongStates(), wrongChances()
	far := []predict.State{state{x: allOf(top)}.given(), state{x: allOf(-top)}.given()}
	for i, s := range states {
		l := chances[i%len(chances)]
		wantNoJoin(t, []predict.State{s, s}, l)
		wantNoAll(t, []predict.State{s, s}, l, [][]int64{l, l})
		wantNoAll(t, []predict.State{s}, l, nil)
		wantNoAll(t, slices.Repeat([]predict.State{s}, 5), l, chances)
	}
	for i, l := range chances {
		wantNoShares(t, l, chances, -1)
		wantNoShares(t, l, [][]int64{l, l}, 2)
		wantNoShares(t, []int64{half, half}, [][]int64{l, l}, wrongPlaces(2)[i%17])
		wantNoShares(t, nil, nil, wrongPlaces(1)[i%17])
		wantNoAll(t, far, l, itself(2))
		wantNoAll(t, far, alone(0, 2), [][]int64{{half, half}, l})
		wantNoAll(t, far, alone(0, 2), [][]int64{l, {half, half}})
		wantNoJoin(t, far, l)
	}
	for to := -2; to < 3; to++ {
		wantNoShares(t, nil, nil, to)
		wantNoShares(t, []int64{}, [][]int64{}, to)
	}
	wantNoJoin(t, nil, nil)
	wantNoAll(t, nil, nil, nil)
	wantNoAll(t, far, nil, nil)
	wantNoAll(t, nil, alone(0, 2), itself(2))
	wantNoAll(t, append(far, states[1]), []int64{half, quarter, quarter}, itself(3))
}
