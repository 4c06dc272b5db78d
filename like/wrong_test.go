package like_test

import (
	"errors"
	"math/rand"
	"slices"
	"testing"

	"radome/api"
	"radome/ldl"
	"radome/like"
	"radome/update"
)

// goodFactors are factors that may be, of so many numbers.
func goodFactors(n int) ldl.Factors {
	f := ldl.Factors{N: n}
	for i := range n {
		f.D[i] = unit
		for j := range i {
			f.L[i*n+j] = int64(i-3*j) * 1000
		}
		f.L[i*n+i] = one
	}
	return f
}

// wrongFactors are such as layer 13's Far does not take: they may not be, or have not two numbers.
func wrongFactors() []ldl.Factors {
	out := []ldl.Factors{{}}
	for n := 1; n <= 6; n++ {
		if n != 2 {
			out = append(out, goodFactors(n))
		}
		out = append(out, ldl.Factors{N: n}, ldl.Factors{N: n, D: goodFactors(n).D}, ldl.Factors{N: n, L: goodFactors(n).L})
	}
	for _, n := range []int{0, 1, -1, -2, 3, 4, 6, 7, 36, 1<<32 + 2, 1 << 62, most, least, least + 2} {
		f := goodFactors(2)
		f.N = n
		out = append(out, f)
	}
	for i := range 6 {
		for _, wrong := range []int64{0, 1, -1, -unit, top, top + 1, -top, most, least} {
			if i < 2 && wrong >= 1 && wrong <= top || i >= 2 && wrong == 0 {
				continue
			}
			f := goodFactors(2)
			f.D[i] = wrong
			out = append(out, f)
		}
	}
	for place := range 36 {
		for _, wrong := range wrongInL(place) {
			f := goodFactors(2)
			f.L[place] = wrong
			out = append(out, f)
		}
	}
	return out
}

// wrongInL are numbers that may not stand at a place of L of two rows.
func wrongInL(place int) []int64 {
	switch place {
	case 0, 3:
		return []int64{0, 1, -1, unit, one - 1, one + 1, -one, 1 << 31, half, top, most, least}
	case 2:
		return beyond
	}
	return []int64{1, -1, one, unit, top, -top, most, least}
}

func TestLK1WrongGaps(t *testing.T) {
	for _, f := range wrongFactors() {
		for _, v := range [][2]int64{{}, {unit, -unit}, {most, least}} { // the last would be too great as well
			wantNoOf(t, update.Gap{V: v, F: f})
		}
	}
	wantOf(t, update.Gap{F: goodFactors(2)}, 0, false)
	for _, d := range [][2]int64{{0, unit}, {unit, 0}, {0, 0}, {-unit, unit}, {unit, top + 1}} {
		wantNoOf(t, pair{half, d[0], d[1]}.gap([2]int64{unit, unit}))
	}
	for _, l := range beyond {
		wantNoOf(t, pair{l, unit, unit}.gap([2]int64{}))
	}
}

// wrongChances are numbers that are no chances, however many there are to be.
func wrongChances() [][]int64 {
	return [][]int64{
		nil, {}, make([]int64, 0, 4), {0}, {0, 0}, {0, 0, 0}, {0, 0, 0, 0}, // none, or nothing
		{0, 0, 0, 0, one}, {one, 0, 0, 0, 0}, {quarter, quarter, quarter, quarter / 2, quarter / 2}, make([]int64, 64), // too many
		{one + 1}, {one - 1}, {2 * one}, {-one}, {1}, {top}, {most}, {least}, {one + 1<<32}, // one that is not all
		{half, half + 1}, {half - 1, half}, {one, 1}, {1, one}, {0, one - 1}, {357913942, 357913942, 357913941}, {357913941, 357913941, 357913941}, {quarter, quarter, quarter, quarter + 1}, {quarter - 1, quarter, quarter, quarter}, {one, one, one, one}, // one more or one less
		{-1, one + 1}, {one + 1, -1}, {one, 1, -1}, {one, -1, 1}, {-1, one, 0, 1}, {0, one, 1, -1}, {-one, 2 * one}, {-1, -1, one + 2}, {half, one, -half}, {top, one - top}, {-top, one + top}, // one below 0
		{most, least + 1 + one}, {one + 1, most, least}, {one, most, -most}, {most, most, 2 + one}, {one, 2, most, most}, {1 << 62, 1 << 62, 1 << 62, 1<<62 + one}, {least, least, one}, {least, 0, one, least}, {most, 1, least, one}, // the sum wraps round to 2^30
	}
}

func TestLK2WrongChances(t *testing.T) {
	for _, chances := range wrongChances() {
		for many := range 7 {
			for _, floor := range []int64{0, 1, highest} {
				wantNoWeights(t, make([]int64, many), chances, floor)
				wantNoWeights(t, slices.Repeat([]int64{top}, many), chances, floor)
			}
		}
		for _, floor := range floors {
			wantNoWeights(t, make([]int64, len(chances)), chances, floor)
		}
	}
}

// From 1 to 4, and as many of both: neither more nor fewer.
func TestLK2WrongManyLogarithms(t *testing.T) {
	for many := range 8 {
		for count := range 8 {
			logs := slices.Repeat([]int64{7}, many)
			for place := range max(count, 1) {
				var chances []int64
				if count > 0 {
					chances = alone(place, count)
				}
				if many == count && many >= 1 && many <= 4 {
					wantWeights(t, logs, chances, 0, false, chances...)
					continue
				}
				wantNoWeights(t, logs, chances, 0)
				wantNoWeights(t, logs, chances, highest)
			}
		}
	}
	wantNoWeights(t, make([]int64, 5), []int64{quarter, quarter, quarter, quarter, 0}, 0)
	wantNoWeights(t, make([]int64, 5), []int64{quarter, quarter, quarter, quarter / 2, quarter / 2}, 1)
	wantNoWeights(t, make([]int64, 1<<16), []int64{one}, 0)
	wantNoWeights(t, nil, []int64{one}, 0)
	wantNoWeights(t, []int64{1}, nil, 0)
	wantNoWeights(t, make([]int64, 1, 2), []int64{half, half}, 0) // spare room is no number
	wantNoWeights(t, make([]int64, 2), append(make([]int64, 0, 2), one), 0)
}

// A logarithm beyond MaxTop's size is found at each place, where its chance is 0 too; one of just that size is not wrong.
func TestLK2LogarithmsBeyondTheBound(t *testing.T) {
	r := rand.New(rand.NewSource(13))
	for many := 1; many <= 4; many++ {
		for place := range many {
			for _, chances := range [][]int64{randomChances(r, many), alone(place, many), alone((place+1)%many, many)} {
				for _, floor := range floors {
					for _, n := range beyond {
						logs := randomLogs(r, many, 40)
						logs[place] = n
						wantNoWeights(t, logs, chances, floor)
						wantNoWeights(t, slices.Repeat([]int64{n}, many), chances, floor)
					}
					for _, n := range []int64{top, -top} {
						logs := make([]int64, many)
						logs[place] = n
						checkWeights(t, logs, chances, floor)
					}
				}
			}
		}
	}
}

func TestLK2WrongFloors(t *testing.T) {
	r := rand.New(rand.NewSource(14))
	for _, floor := range wrongFloors {
		for many := 1; many <= 4; many++ {
			for range 20 {
				wantNoWeights(t, randomLogs(r, many, 1+r.Intn(62)), randomChances(r, many), floor)
			}
			wantNoWeights(t, farLogs(r, many), alone(0, many), floor)
		}
		wantNoWeights(t, []int64{top, -top}, []int64{half, half}, floor) // too great as well, which is not told
	}
	for many := 1; many <= 4; many++ { // these are just none
		for _, floor := range []int64{0, highest} {
			checkWeights(t, make([]int64, many), alone(many-1, many), floor)
		}
	}
}

// Several wrong at once: the error is the same one.
func TestLK2SeveralWrong(t *testing.T) {
	for i, chances := range wrongChances() {
		for _, floor := range wrongFloors {
			wantNoWeights(t, make([]int64, len(chances)), chances, floor)
			wantNoWeights(t, slices.Repeat([]int64{beyond[i%len(beyond)]}, len(chances)), chances, floor)
			wantNoWeights(t, beyond, chances, floor)
			wantNoWeights(t, nil, chances, floor)
		}
	}
	for _, floor := range wrongFloors {
		wantNoWeights(t, []int64{most, least}, []int64{half, half}, floor)
		wantNoWeights(t, []int64{most}, []int64{half, half}, floor)
		wantNoWeights(t, nil, nil, floor)
	}
}

// ErrNought never comes of what is not wrong: the likeliest keeps all of its chance, be it the least one.
func TestLK2NothingIsNought(t *testing.T) {
	for many := 2; many <= 4; many++ {
		for place := range many {
			for other := range many {
				if other == place {
					continue
				}
				for _, far := range []int64{-22531343, -45 * unit, -46 * unit, -top, 0} {
					logs, chances := slices.Repeat([]int64{far}, many), make([]int64, many)
					logs[place], chances[place], chances[other] = 0, 1, one-1
					got, over, err := like.Weights(logs, chances, 0)
					if errors.Is(err, api.ErrNought) || err != nil || over {
						t.Errorf("Weights(%v, %v, 0): %v, %v, %v", logs, chances, got, over, err)
					}
					want := alone(place, many)
					if far == 0 {
						want = chances
					}
					wantWeights(t, logs, chances, 0, false, want...)
				}
			}
		}
	}
}

// None, and 65; and 64 are not wrong, nor is any number.
func TestLK3WrongManyNumbers(t *testing.T) {
	for _, many := range []int{0, 65, 66, 127, 128, 1000, 1 << 16} {
		for _, n := range []int64{0, 7, top, most, least} {
			wantNoBest(t, slices.Repeat([]int64{n}, many))
			logs := slices.Repeat([]int64{n}, many)
			if many > 0 {
				logs[many/2] ^= 1
				wantNoBest(t, logs)
			}
		}
	}
	wantNoBest(t, make([]int64, 0, 64))
	for many := 1; many <= 64; many++ {
		logs := make([]int64, many, many+1)
		logs[many-1] = 5
		by := int64(5)
		if many == 1 {
			by = top
		}
		wantBest(t, logs, many-1, by)
	}
}
