package like_test

import (
	"math/rand"
	"slices"
	"testing"

	"radome/chance"
	"radome/like"
)

// The numbers are of another reckoner than the tests' own.
func TestLK2Weights(t *testing.T) {
	for _, c := range []struct {
		logs, chances []int64
		floor         int64
		want          []int64
	}{
		{[]int64{5, 5}, []int64{half, half}, 0, []int64{half, half}}, // the document's
		{[]int64{0, -unit}, []int64{half, half}, 0, []int64{784968172, 288773652}}, {[]int64{-unit, 0}, []int64{half, half}, 0, []int64{288773652, 784968172}},
		{[]int64{0, -unit}, []int64{quarter, 3 * quarter}, 0, []int64{510421308, 563320516}},
		{[]int64{-unit, 0, -2 * unit}, []int64{357913942, 357913941, 357913941}, 0, []int64{262775195, 714297037, 96669592}},
		{[]int64{-8946712, -6857394, -8298530}, []int64{half, quarter, quarter}, unit, []int64{192404853, 702757551, 178579420}},
		{[]int64{0, -unit, -2 * unit, -3 * unit}, []int64{quarter, quarter, quarter, quarter}, 0, []int64{691397672, 254350989, 93570500, 34422663}},
		{[]int64{0, -unit, -2 * unit, -3 * unit}, []int64{quarter, quarter, quarter, quarter}, highest, []int64{585657118, 257872106, 137286739, 92925861}},
		{[]int64{0, -726817}, []int64{one - 3, 3}, 0, []int64{one - 2, 2}}, {[]int64{0, -726817}, []int64{one - 5, 5}, 0, []int64{one - 3, 3}}, {[]int64{-726817, 0, 0}, []int64{1, one - 2, 1}, 0, []int64{1, one - 2, 1}},
		{[]int64{7, 6}, []int64{half, half}, 0, []int64{536871168, 536870656}}, {[]int64{7, 6}, []int64{half, half}, 5, []int64{536871168, 536870656}}, // a last bit
		{[]int64{0, -20 * unit}, []int64{half, half}, 0, []int64{one - 2, 2}}, {[]int64{0, -20 * unit}, []int64{1, one - 1}, 0, []int64{357913942, 715827882}}, // a weight is not rounded
	} {
		wantWeights(t, c.logs, c.chances, c.floor, false, c.want...)
		checkWeights(t, c.logs, c.chances, c.floor)
	}
}

// One alone is sure, whatever its logarithm and the floor are.
func TestLK2WeightsOfOne(t *testing.T) {
	for _, n := range []int64{0, 1, -1, unit, -unit, -45 * unit, top - 1, top, -top} {
		for _, floor := range floors {
			wantWeights(t, []int64{n}, []int64{one}, floor, false, one)
		}
	}
}

// All as likely: the chances stay as they were.
func TestLK2AsLikelyStayTheSame(t *testing.T) {
	r := rand.New(rand.NewSource(6))
	for i := range 4000 {
		chances := randomChances(r, 1+i%4)
		for _, n := range []int64{0, random(r, 62), top, -top} {
			wantWeights(t, slices.Repeat([]int64{n}, len(chances)), chances, 0, false, chances...)
		}
	}
}

// What stands for how likely things are is how far they are from each other alone.
func TestLK2WeightsAreOfDistances(t *testing.T) {
	r := rand.New(rand.NewSource(7))
	for i := range 4000 {
		many := 1 + i%4
		logs, chances, floor := make([]int64, many), randomChances(r, many), floors[r.Intn(len(floors))]
		for j := range logs {
			logs[j] = random(r, 28)
		}
		want, _ := reckonedWeights(logs, chances, floor)
		for _, by := range []int64{1, -1, random(r, 61), top - slices.Max(logs), -top - slices.Min(logs)} {
			moved := slices.Clone(logs)
			for j := range moved {
				moved[j] += by
			}
			wantWeights(t, moved, chances, floor, false, want...)
		}
	}
}

// A chance of 0 has no weight: it stays 0, or the floor; its logarithm is not looked at, be it the greatest or as far away as may be.
func TestLK2WeightsOfNoChance(t *testing.T) {
	for _, n := range []int64{0, 1, -1, 2 * unit, 5 * unit, 46 * unit, -46 * unit, top, -top} {
		wantWeights(t, []int64{unit, 0, n}, []int64{half, half, 0}, 0, false, 784968172, 288773652, 0)
		wantWeights(t, []int64{n, unit, 0}, []int64{0, half, half}, 1000, false, 1000, 784966979, 288773845)
		wantWeights(t, []int64{unit, n, 0}, []int64{half, 0, half}, 0, false, 784968172, 0, 288773652)
		for many := 2; many <= 4; many++ {
			for place := range many {
				for _, m := range []int64{0, top, -top} {
					logs := slices.Repeat([]int64{n}, many)
					logs[place] = m
					for _, floor := range floors {
						want := slices.Repeat([]int64{floor}, many)
						want[place] = one - floor*int64(many-1)
						wantWeights(t, logs, alone(place, many), floor, false, want...)
					}
				}
			}
		}
	}
}

// So far below the greatest nothing is left: first of what is rounded away, then of what isn't reckoned any more; but the floor is.
func TestLK2WeightsOfWhichNothingIsLeft(t *testing.T) {
	for _, c := range []struct {
		far, chance, want int64
	}{
		{-22531341, half, 1}, {-22531342, half, 1}, {-22531343, half, 0}, {-22531342, one - 1, half}, {-22531343, one - 1, 0},
		{-45 * unit, half, 0}, {-45*unit - 1, half, 0}, {-45 * unit, one - 1, 0}, {-45*unit - 1, one - 1, 0}, {-top, half, 0}, {-top, one - 1, 0},
	} {
		wantWeights(t, []int64{0, c.far}, []int64{one - c.chance, c.chance}, 0, false, one-c.want, c.want)
		wantWeights(t, []int64{c.far, 0}, []int64{c.chance, one - c.chance}, 0, false, c.want, one-c.want)
		if c.want == 0 {
			for _, floor := range floors {
				wantWeights(t, []int64{0, c.far}, []int64{one - c.chance, c.chance}, floor, false, one-floor, floor)
			}
		}
	}
}

// Logarithms of MaxTop's size: what is farther from the greatest than that is too great, and told, where there is a chance of it.
func TestLK2WeightsOfWhatIsTooGreat(t *testing.T) {
	for _, c := range []struct {
		greatest, other int64
		great           bool
	}{
		{0, -top, false}, {top, 0, false}, {1, -top, true}, {1, 1 - top, false}, {top, -1, true}, {top, -top, true}, {top - 1, -1, false}, {top - 1, -2, true}, {-1, -top, false}, {1 << 61, -1 << 61, true}, {1<<61 - 1, -1 << 61, false}, {top, top, false}, {-top, -top, false},
	} {
		want := []int64{one, 0}
		if c.greatest == c.other {
			want = []int64{half, half}
		}
		wantWeights(t, []int64{c.greatest, c.other}, []int64{half, half}, 0, c.great, want...)
		wantWeights(t, []int64{c.other, c.greatest}, []int64{half, half}, 0, c.great, want[1], want[0])
		wantWeights(t, []int64{c.greatest, c.other}, []int64{one, 0}, 0, false, one, 0)
		wantWeights(t, []int64{c.greatest, c.other}, []int64{0, one}, 0, false, 0, one)
		for many := 2; many <= 4; many++ {
			for place := range many {
				for other := range many {
					if place != other {
						logs, chances := slices.Repeat([]int64{c.greatest}, many), alone(place, many)
						logs[other] = c.other
						wantWeights(t, logs, chances, 0, false, chances...)
						chances[place], chances[other] = half, half
						if great := checkWeights(t, logs, chances, highest); great != c.great {
							t.Errorf("%v, %v: too great: %v", logs, chances, great)
						}
					}
				}
			}
		}
	}
	wantWeights(t, []int64{top, top - unit}, []int64{half, half}, 0, false, 784968172, 288773652)
	wantWeights(t, []int64{unit - top, -top}, []int64{half, half}, 0, false, 784968172, 288773652)
	wantWeights(t, []int64{top, -top, 0, top - 1}, []int64{half, 0, quarter, quarter}, 0, false, 715828110, 0, 0, 357913714)
}

func TestLK2WeightsOfEdges(t *testing.T) {
	numbers := []int64{0, 1, -1, unit, -unit, -726817, -22531343, -45 * unit, -45*unit - 1, 1 << 61, -1 << 61, top - 1, 1 - top, top, -top}
	great := 0
	for _, a := range numbers {
		for _, b := range numbers {
			for _, p := range []int64{0, 1, 2, quarter, half, one - 1, one} {
				for _, floor := range floors {
					for _, ask := range []struct{ logs, chances []int64 }{{[]int64{a, b}, []int64{p, one - p}}, {[]int64{a, b, a}, []int64{p / 2, one - p, p - p/2}}, {[]int64{b, a, 0, b}, []int64{0, p, one - p, 0}}} {
						if checkWeights(t, ask.logs, ask.chances, floor) {
							great++
						}
					}
				}
			}
		}
	}
	if great < 500 {
		t.Errorf("just %d too great", great)
	}
}

// By chance, and as the chapter says it: P3 among it, by layer 14's Check.
func TestLK2WeightsOfRandomLogarithms(t *testing.T) {
	r := rand.New(rand.NewSource(8))
	great := 0
	for i := range 40000 {
		many := 1 + i%4
		logs, chances, floor := randomLogs(r, many, 1+r.Intn(62)), randomChances(r, many), floors[r.Intn(len(floors))]
		if i%3 == 0 {
			logs = farLogs(r, many)
		}
		if checkWeights(t, logs, chances, floor) {
			great++
		}
		got, _, err := like.Weights(logs, chances, floor)
		if err != nil || chance.Check(got, floor) != nil {
			t.Fatalf("Weights(%v, %v, %d): %v, %v", logs, chances, floor, got, err)
		}
	}
	if great < 500 {
		t.Errorf("just %d too great", great)
	}
}

// Where they stand in another order, so do their chances.
func TestLK2WeightsInAnotherOrder(t *testing.T) {
	r := rand.New(rand.NewSource(9))
	for i := range 4000 {
		many := 2 + i%3
		logs, chances := randomLogs(r, many, 24), randomChances(r, many)
		otherLogs, otherChances := make([]int64, many), make([]int64, many)
		order := r.Perm(many)
		for k, from := range order {
			otherLogs[k], otherChances[k] = logs[from], chances[from]
		}
		a, over, err := like.Weights(logs, chances, 0)
		b, over2, err2 := like.Weights(otherLogs, otherChances, 0)
		if err != nil || err2 != nil || over != over2 {
			t.Fatal(over, err, over2, err2)
		}
		for k, from := range order { // what is left over goes to the earlier one of as much
			if off := a[from] - b[k]; off < -1 || off > 1 {
				t.Errorf("Weights(%v, %v): %v, in the order %v: %v", logs, chances, a, order, b)
			}
		}
	}
}

// Chances that something was seen by twice are those by both logarithms at once, but for what was rounded.
func TestLK2WeightsTwice(t *testing.T) {
	r := rand.New(rand.NewSource(10))
	for range 2000 {
		first, second, both := randomLogs(r, 3, 20), []int64{0, -random(r, 20), random(r, 20)}, make([]int64, 3)
		for i := range both {
			first[i] >>= 1 // so that both are within
			both[i] = first[i] + second[i]
		}
		chances := []int64{half, quarter, quarter}
		once, _, err := like.Weights(both, chances, 0)
		then, _, err2 := like.Weights(first, chances, 0)
		twice, _, err3 := like.Weights(second, then, 0)
		if err != nil || err2 != nil || err3 != nil {
			t.Fatal(err, err2, err3)
		}
		for i := range once {
			if off := once[i] - twice[i]; off < -100 || off > 100 {
				t.Errorf("Weights by %v and %v: %v; at once: %v", first, second, twice, once)
			}
		}
	}
}

// The likelier of two with the same chance has no lesser one then, wherever both stand.
func TestLK4TheLikelierHasNoLesserChance(t *testing.T) {
	r := rand.New(rand.NewSource(11))
	for i := range 40000 {
		many := 2 + i%3
		logs, chances, floor := randomLogs(r, many, 1+r.Intn(30)), randomChances(r, many), floors[r.Intn(len(floors))]
		a, b := r.Intn(many), r.Intn(many)
		both := chances[a] + chances[b]
		if a == b || both%2 != 0 {
			continue
		}
		chances[a], chances[b] = both/2, both/2
		if r.Intn(2) == 0 {
			logs[a] = min(top, logs[b]+r.Int63n(4)) // nearly as likely
		}
		got, _, err := like.Weights(logs, chances, floor)
		if err != nil {
			t.Fatal(err)
		}
		if logs[a] < logs[b] {
			a, b = b, a
		}
		if got[a] < got[b]-1 {
			t.Errorf("Weights(%v, %v, %d): %v: place %d has less than place %d", logs, chances, floor, got, a, b)
		}
	}
}

// So it is all the way down, of two that are next to each other, in all orders.
func TestLK4AllTheWayDown(t *testing.T) {
	for far := int64(0); far < 23*unit; far += 997 {
		for turn, order := range [][3]int{{0, 1, 2}, {0, 2, 1}, {1, 0, 2}, {1, 2, 0}, {2, 0, 1}, {2, 1, 0}} {
			logs, chances := make([]int64, 3), make([]int64, 3)
			for i, place := range order {
				logs[place], chances[place] = []int64{0, -far, -far - 1}[i], []int64{half, quarter, quarter}[i]
			}
			got, over, err := like.Weights(logs, chances, floors[turn%len(floors)])
			if err != nil || over {
				t.Fatalf("Weights(%v): %v, %v, %v", logs, got, over, err)
			}
			if got[order[1]] < got[order[2]]-1 {
				t.Errorf("Weights(%v, %v): %v", logs, chances, got)
			}
		}
	}
}
