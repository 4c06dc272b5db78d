package chance_test

import (
	"math/big"
	"math/rand"
	"slices"
	"testing"

	"radome/chance"
)

func TestCN3Mix(t *testing.T) {
	const half, quarter, eighth = one / 2, one / 4, one / 8
	for _, c := range []struct {
		l    []int64
		rows [][]int64
		want []int64
	}{
		{[]int64{one}, [][]int64{{one}}, []int64{one}},
		{[]int64{one, 0}, [][]int64{{quarter, 3 * quarter}, {half, half}}, []int64{quarter, 3 * quarter}}, {[]int64{0, one}, [][]int64{{quarter, 3 * quarter}, {half, half}}, []int64{half, half}},
		{[]int64{half, half}, [][]int64{{one, 0}, {half, half}}, []int64{3 * quarter, quarter}}, {[]int64{quarter, 3 * quarter}, [][]int64{{0, one}, {one, 0}}, []int64{3 * quarter, quarter}},
		{[]int64{half, quarter, quarter}, [][]int64{{half, quarter, quarter}, {0, one, 0}, {half, 0, half}}, []int64{3 * eighth, 3 * eighth, quarter}},
		{[]int64{quarter, quarter, quarter, quarter}, [][]int64{{one, 0, 0, 0}, {one, 0, 0, 0}, {0, 0, one, 0}, {0, half, 0, half}}, []int64{half, eighth, quarter, eighth}},
		{[]int64{1, one - 1}, [][]int64{{0, one}, {one, 0}}, []int64{one - 1, 1}},
		{[]int64{1, one - 1}, [][]int64{{half, half}, {0, one}}, []int64{1, one - 1}}, {[]int64{1, one - 1}, [][]int64{{half, half}, {one, 0}}, []int64{one, 0}}, // a half was cut off of both: the earlier one
		{[]int64{1, one - 1}, [][]int64{{half - 1, half + 1}, {0, one}}, []int64{0, one}}, {[]int64{1, one - 1}, [][]int64{{half + 1, half - 1}, {0, one}}, []int64{1, one - 1}}, {[]int64{one - 1, 1}, [][]int64{{one, 0}, {half, half}}, []int64{one, 0}}, // the one of which more was cut off
		// A quarter each: the first.
		{[]int64{1, 0, 0, one - 1}, [][]int64{{quarter, quarter, quarter, quarter}, alone(0, 4), alone(1, 4), alone(3, 4)}, []int64{1, 0, 0, one - 1}},
		// A half each: the first two.
		{[]int64{2, 0, 0, one - 2}, [][]int64{{quarter, quarter, quarter, quarter}, alone(0, 4), alone(1, 4), alone(3, 4)}, []int64{1, 1, 0, one - 2}},
		// Three quarters each: the first three.
		{[]int64{3, 0, 0, one - 3}, [][]int64{{quarter, quarter, quarter, quarter}, alone(0, 4), alone(1, 4), alone(3, 4)}, []int64{1, 1, 1, one - 3}},
		// Three quarters ahead of one.
		{[]int64{1, 1, 1, one - 3}, [][]int64{{quarter, quarter, quarter, quarter}, {0, 0, 0, one}, {0, half, half, 0}, alone(3, 4)}, []int64{0, 1, 1, one - 2}},
		// The first sum of products is greater than the others by one.
		{[]int64{357913942, 357913941, 357913941}, [][]int64{{357913942, 357913941, 357913941}, {357913941, 357913942, 357913941}, {357913941, 357913941, 357913942}}, []int64{357913942, 357913941, 357913941}},
	} {
		got, err := chance.Mix(c.l, c.rows)
		wantIs(t, call("Mix", c.l, c.rows), got, err, c.want...)
		checkMix(t, c.l, c.rows)
	}
}

// Rows by which each becomes itself leave all as it is; by rows that are all the same all become those chances, and so one, if these are one alone.
func TestCN3MixOfRowsThatAreKnown(t *testing.T) {
	r := rand.New(rand.NewSource(3))
	for i := range 4000 {
		many := 1 + i%4
		l := shared(r, many, 0)
		got, err := chance.Mix(l, itself(many))
		wantIs(t, call("Mix", l, "itself"), got, err, l...)
		row := shared(r, many, 0)
		got, err = chance.Mix(l, slices.Repeat([][]int64{row}, many))
		wantIs(t, call("Mix", l, row), got, err, row...)
		for place := range many {
			got, err = chance.Mix(l, slices.Repeat([][]int64{alone(place, many)}, many))
			wantIs(t, call("Mix", l, place), got, err, alone(place, many)...)
			rows := sharedRows(r, many)
			got, err = chance.Mix(alone(place, many), rows)
			wantIs(t, call("Mix", place, rows), got, err, rows[place]...)
		}
		turned := slices.Concat(itself(many)[1:], itself(many)[:1]) // each becomes the next one
		got, err = chance.Mix(l, turned)
		wantIs(t, call("Mix", l, turned), got, err, slices.Concat(l[many-1:], l[:many-1])...)
	}
}

// P3: chances after a change are off what they are exactly by less than a last bit.
func TestCN3MixOfRandomChances(t *testing.T) {
	r := rand.New(rand.NewSource(4))
	whole := big.NewInt(one)
	for i := range 60000 {
		many := 1 + i%4
		l, rows := shared(r, many, 0), sharedRows(r, many)
		got := checkMix(t, l, rows)
		for j, w := range mixed(l, rows) {
			off := new(big.Int).Mul(big.NewInt(got[j]), whole)
			if off.Sub(off, w).CmpAbs(whole) >= 0 {
				t.Errorf("Mix(%v, %v): %v: place %d is off by a last bit or more", l, rows, got, j)
			}
		}
	}
}

func TestCN3MixOfSmallChances(t *testing.T) {
	numbers := []int64{0, 1, 2, 3, one / 2, one - 2, one - 1, one}
	var pairs [][]int64
	for _, n := range numbers {
		pairs = append(pairs, []int64{n, one - n})
	}
	for _, l := range pairs {
		for _, a := range pairs {
			for _, b := range pairs {
				checkMix(t, l, [][]int64{a, b})
				third := []int64{b[1], 0, b[0]}
				checkMix(t, []int64{l[0] / 2, l[0] - l[0]/2, l[1]}, [][]int64{{a[0], a[1], 0}, {0, b[0], b[1]}, third})
				checkMix(t, []int64{l[0], 0, 0, l[1]}, [][]int64{{a[0], 0, a[1] / 2, a[1] - a[1]/2}, {one, 0, 0, 0}, {0, b[0], b[1], 0}, {b[0] - b[0]/2, b[1], 0, b[0] / 2}})
			}
		}
	}
}

// CN4: what is greater by one in the sums of products is not less after a change.
func TestCN4MixOfNearlyTheSame(t *testing.T) {
	r := rand.New(rand.NewSource(5))
	for i := range 20000 {
		many := 2 + i%3
		l, rows := shared(r, many, 0), make([][]int64, many)
		for k := range rows {
			rows[k], _ = chance.Even(many)
			a, b := r.Intn(many), r.Intn(many)
			rows[k][a], rows[k][b] = rows[k][b], rows[k][a]
			a, b = r.Intn(many), r.Intn(many)
			rows[k][a]++
			rows[k][b]--
		}
		checkMix(t, l, rows)
	}
}

func TestCN3WrongChances(t *testing.T) {
	r := rand.New(rand.NewSource(6))
	for _, l := range wrongChances() {
		for many := range 6 {
			rows := sharedRows(r, max(many, 1))[:many]
			got, err := chance.Mix(l, rows)
			wantWrong(t, call("Mix", l, rows), got, err, 1)
		}
		rows := sharedRows(r, max(len(l), 1))
		got, err := chance.Mix(l, rows)
		wantWrong(t, call("Mix", l, rows), got, err, 1)
	}
}

// As many rows as there are chances, neither more nor fewer; each of as many numbers.
func TestCN3WrongManyRows(t *testing.T) {
	r := rand.New(rand.NewSource(7))
	for many := 1; many <= 4; many++ {
		l := shared(r, many, 0)
		for count := range 7 {
			for long := range 7 {
				rows := make([][]int64, count)
				for i := range rows {
					if long > 0 {
						rows[i] = shared(r, long, 0)
					}
				}
				got, err := chance.Mix(l, rows)
				if count == many && long == many {
					wantChances(t, call("Mix", l, rows), got, many, 0)
					continue
				}
				wantWrong(t, call("Mix", l, rows), got, err, 1)
			}
		}
		for _, rows := range [][][]int64{nil, {}, make([][]int64, many), slices.Repeat([][]int64{{}}, many), append(itself(many), alone(0, many)), append(itself(many), nil), itself(many)[:many-1], slices.Repeat(itself(many), 2)} {
			got, err := chance.Mix(l, rows)
			wantWrong(t, call("Mix", l, rows), got, err, 1)
		}
	}
}

// A row that is wrong is found at each place, where its chance is 0 too.
func TestCN3WrongRows(t *testing.T) {
	r := rand.New(rand.NewSource(8))
	for many := 1; many <= 4; many++ {
		for place := range many {
			good := shared(r, many, 0)
			wrong := append(wrongChances(), append(slices.Clone(good), 0), append([]int64{0}, good...), alone(0, many+1), alone(many, many+1))
			if many > 1 {
				wrong = append(wrong, alone(0, many-1), shared(r, many-1, 0), alone(many-1, many)[:many-1])
			}
			for k := range many { // one number of it alone
				for _, by := range []int64{1, -1, one, -one, 1 << 32, -1 << 32, least, top} {
					changed := slices.Clone(good)
					changed[k] += by
					wrong = append(wrong, changed)
				}
				if other := (k + 1) % many; other != k {
					below := alone(other, many)
					below[k]--
					below[other]++
					wrong = append(wrong, below)
				}
			}
			for _, row := range wrong {
				rows := sharedRows(r, many)
				rows[place] = row
				for _, l := range [][]int64{shared(r, many, 0), alone(place, many), alone((place+1)%many, many)} {
					got, err := chance.Mix(l, rows)
					wantWrong(t, call("Mix", l, rows), got, err, 1)
				}
			}
		}
	}
}
