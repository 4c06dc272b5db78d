package mix_test

import (
	"errors"
	"math/big"
	"math/rand"
	"slices"
	"testing"

	"radome/api"
	"radome/chance"
	"radome/mix"
)

const half, quarter, eighth = one / 2, one / 4, one / 8

func TestMX1SharesByHand(t *testing.T) {
	for _, c := range []struct {
		chances []int64
		rows    [][]int64
		to      int
		want    []int64
	}{
		{[]int64{one}, [][]int64{{one}}, 0, []int64{one}},
		// To the first come a half of a quarter and a quarter of three quarters: two fifths and three fifths; to the second two elevenths and nine.
		{[]int64{quarter, 3 * quarter}, [][]int64{{half, half}, {quarter, 3 * quarter}}, 0, []int64{429496730, 644245094}},
		{[]int64{quarter, 3 * quarter}, [][]int64{{half, half}, {quarter, 3 * quarter}}, 1, []int64{195225786, one - 195225786}},
		{[]int64{half, half}, [][]int64{{one, 0}, {half, half}}, 0, []int64{715827883, 357913941}}, {[]int64{half, half}, [][]int64{{one, 0}, {half, half}}, 1, []int64{0, one}},
		{[]int64{half, quarter, quarter}, [][]int64{{half, half, 0}, {0, one, 0}, {one, 0, 0}}, 0, []int64{half, 0, half}}, {[]int64{half, quarter, quarter}, [][]int64{{half, half, 0}, {0, one, 0}, {one, 0, 0}}, 1, []int64{half, half, 0}},
		{[]int64{half, quarter, quarter}, [][]int64{{half, half, 0}, {0, one, 0}, {one, 0, 0}}, 2, []int64{0, 0, one}},
		{[]int64{quarter, quarter, quarter, quarter}, [][]int64{{one, 0, 0, 0}, {half, half, 0, 0}, {quarter, 0, 3 * quarter, 0}, {quarter, 0, 0, 3 * quarter}}, 0, []int64{half, quarter, eighth, eighth}},
		// A third of each, what is left over goes to the first; and so it does where the first is no part of it.
		{[]int64{357913942, 357913941, 357913941}, sameRows([]int64{one, 0, 0}, 3), 0, []int64{357913942, 357913941, 357913941}},
		{[]int64{quarter, quarter, quarter, quarter}, [][]int64{{one, 0, 0, 0}, {0, one, 0, 0}, {0, one, 0, 0}, {0, one, 0, 0}}, 1, []int64{0, 357913942, 357913941, 357913941}},
		// Products of 1 and of 2^30 less 1, and of 1 alone.
		{[]int64{1, one - 1}, [][]int64{{0, one}, {1, one - 1}}, 0, []int64{0, one}}, {[]int64{1, one - 1}, [][]int64{{1, one - 1}, {0, one}}, 0, []int64{one, 0}}, {[]int64{1, one - 1}, [][]int64{{one, 0}, {1, one - 1}}, 0, []int64{half, half}},
	} {
		wantShares(t, c.chances, c.rows, c.to, c.want...)
		checkShares(t, c.chances, c.rows)
	}
}

// The example of the shared tests: what changes nothing, at both places.
func TestMX1SharesByWhichEachBecomesItself(t *testing.T) {
	r := rand.New(rand.NewSource(1))
	for count := 1; count <= 4; count++ {
		for to := range count {
			for range 200 {
				wantShares(t, randomChances(r, count), itself(count), to, alone(to, count)...)
			}
			for from := range count {
				wantShares(t, alone(from, count), itself(count), to, alone(to, count)...)
			}
		}
	}
}

// Where all become one, the shares to it are the chances; nothing comes to the others, so each of these is one for sure, whatever the chances are.
func TestMX1SharesByWhichAllBecomeOne(t *testing.T) {
	r := rand.New(rand.NewSource(2))
	for count := 1; count <= 4; count++ {
		for one := range count {
			for range 200 {
				chances := randomChances(r, count)
				for to := range count {
					want := alone(to, count)
					if to == one {
						want = chances
					}
					wantShares(t, chances, sameRows(alone(one, count), count), to, want...)
				}
			}
		}
	}
}

// By rows that are all the same all shares are the chances, but where nothing comes to.
func TestMX1SharesByTheSameRows(t *testing.T) {
	r := rand.New(rand.NewSource(3))
	for i := range 4000 {
		count := 1 + i%4
		chances, row := randomChances(r, count), randomChances(r, count)
		for to := range count {
			want := chances
			if row[to] == 0 {
				want = alone(to, count)
			}
			wantShares(t, chances, sameRows(row, count), to, want...)
		}
	}
}

// Nothing comes to a place by rows that have none there, or by chances of 0 of all that have: then it is one for sure. The least product that is not 0 takes all.
func TestMX1NothingComesToOne(t *testing.T) {
	for count := 2; count <= 4; count++ {
		for to := range count {
			for other := range count {
				if other == to {
					continue
				}
				rows := itself(count)
				rows[to] = alone(other, count)
				wantShares(t, alone(to, count), rows, to, alone(to, count)...)
				wantShares(t, alone(other, count), rows, to, alone(to, count)...)
				rows = sameRows(alone(to, count), count)
				rows[other] = alone(other, count)
				wantShares(t, alone(other, count), rows, to, alone(to, count)...)
				rows[other][other]--
				rows[other][to]++
				wantShares(t, alone(other, count), rows, to, alone(other, count)...)
				chances := alone(other, count)
				rows = sameRows(alone(other, count), count)
				rows[to] = alone(to, count)
				wantShares(t, chances, rows, to, alone(to, count)...)
				chances[other]--
				chances[to]++
				wantShares(t, chances, rows, to, alone(to, count)...)
			}
		}
	}
}

// Products as great as may be: 2^60, one of them or all that there may be of such.
func TestMX1ProductsAsGreatAsMayBe(t *testing.T) {
	for count := 1; count <= 4; count++ {
		for from := range count {
			for to := range count {
				rows := sameRows(alone((to+1)%count, count), count)
				rows[from] = alone(to, count)
				wantShares(t, alone(from, count), rows, to, alone(from, count)...)
				checkShares(t, alone(from, count), rows)
			}
		}
	}
	wantShares(t, []int64{one - 1, 1}, [][]int64{{one, 0}, {one, 0}}, 0, one-1, 1)
	wantShares(t, []int64{one - 1, 1}, [][]int64{{one - 1, 1}, {one, 0}}, 0, one-1, 1)
	wantShares(t, []int64{1, 0, 0, one - 1}, [][]int64{{0, 0, one, 0}, {0, 0, one, 0}, {0, 0, one, 0}, {0, 0, one - 1, 1}}, 2, 1, 0, 0, one-1)
	wantShares(t, []int64{half, half}, [][]int64{{one, 0}, {one - 1, 1}}, 0, half, half) // a quarter more, a quarter less
	wantShares(t, []int64{half, half}, [][]int64{{one, 0}, {one - 3, 3}}, 0, half+1, half-1)
}

func TestMX1OfSmallChances(t *testing.T) {
	numbers := []int64{0, 1, 2, 3, half, one - 2, one - 1, one}
	var pairs [][]int64
	for _, n := range numbers {
		pairs = append(pairs, []int64{n, one - n})
	}
	for _, l := range pairs {
		for _, a := range pairs {
			for _, b := range pairs {
				checkShares(t, l, [][]int64{a, b})
				checkShares(t, []int64{l[0] / 2, l[0] - l[0]/2, l[1]}, [][]int64{{a[0], a[1], 0}, {0, b[0], b[1]}, {b[1], 0, b[0]}})
				checkShares(t, []int64{l[0], 0, 0, l[1]}, [][]int64{{a[0], 0, a[1] / 2, a[1] - a[1]/2}, {one, 0, 0, 0}, {0, b[0], b[1], 0}, {b[0] - b[0]/2, b[1], 0, b[0] / 2}})
			}
		}
	}
}

// By chance, and as the chapter says it: layer 14's Of by the products, with no floor.
func TestMX1OfRandomChances(t *testing.T) {
	r := rand.New(rand.NewSource(4))
	for i := range 20000 {
		count := 1 + i%4
		chances, rows := randomChances(r, count), randomRows(r, count)
		checkShares(t, chances, rows)
		for to := range count {
			products := make([]int64, count)
			for k := range products {
				products[k] = chances[k] * rows[k][to]
			}
			want, err := chance.Of(products, 0)
			if err != nil {
				if !errors.Is(err, api.ErrNought) {
					t.Fatal(err)
				}
				want = alone(to, count)
			}
			wantShares(t, chances, rows, to, want...)
		}
	}
}

// Shares are chances; all of them together, each by how much comes to its place, are the chances there were, but for less than a last bit.
func TestMX1SharesOfAllPlacesTogether(t *testing.T) {
	r := rand.New(rand.NewSource(5))
	for i := range 8000 {
		count := 1 + i%4
		chances, rows := randomChances(r, count), randomRows(r, count)
		sums := make([]*big.Int, count)
		for k := range sums {
			sums[k] = new(big.Int).Lsh(big.NewInt(-chances[k]), 60)
		}
		for to := range count {
			comes := summed(chances, column(rows, to))
			shares, err := mix.Shares(chances, rows, to)
			if err != nil || chance.Check(shares, 0) != nil {
				t.Fatalf("Shares(%v, %v, %d): %v, %v", chances, rows, to, shares, err)
			}
			for k := range sums {
				sums[k].Add(sums[k], new(big.Int).Mul(comes, big.NewInt(shares[k])))
			}
		}
		for k, n := range sums {
			if n.CmpAbs(big.NewInt(1<<60)) >= 0 {
				t.Errorf("Shares(%v, %v): together %v off at %d, by 2^60", chances, rows, n, k)
			}
		}
	}
}

// Where places are put in another order, so are the shares.
func TestMX1SharesInAnotherOrder(t *testing.T) {
	r := rand.New(rand.NewSource(6))
	for i := range 2000 {
		count := 2 + i%3
		chances, rows := randomChances(r, count), randomRows(r, count)
		order := r.Perm(count)
		otherChances, otherRows := make([]int64, count), sameRows(chances, count)
		for k, from := range order {
			otherChances[k] = chances[from]
			for j, to := range order {
				otherRows[k][j] = rows[from][to]
			}
		}
		for k, to := range order {
			a, err := mix.Shares(chances, rows, to)
			b, err2 := mix.Shares(otherChances, otherRows, k)
			if err != nil || err2 != nil {
				t.Fatal(err, err2)
			}
			for j, from := range order {
				if off := a[from] - b[j]; off < -1 || off > 1 || off != 0 && !mayTie(chances, rows, to) {
					t.Errorf("Shares(%v, %v, %d): %v, in the order %v: %v", chances, rows, to, a, order, b)
				}
			}
		}
	}
}

// mayTie tells whether two products are the same: what is left over then goes to the earlier one.
func mayTie(chances []int64, rows [][]int64, to int) bool {
	var products []int64
	for k := range chances {
		products = append(products, chances[k]*rows[k][to])
	}
	slices.Sort(products)
	return len(slices.Compact(products)) < len(chances)
}
