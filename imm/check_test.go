package imm_test

import (
	"math/rand"
	"slices"
	"testing"

	"radome/api"
	"radome/imm"
	"radome/model"
)

func TestTheConstantsOfTheDocument(t *testing.T) {
	if api.MaxTop != top || top != 4611686018427387903 || 1<<api.Prob != one || 1<<api.Frac != unit || api.MaxModels != 4 {
		t.Errorf("MaxTop: %d", int64(api.MaxTop))
	}
}

// wantMayBe asks that a conf may be, and that all calls take it.
func wantMayBe(t *testing.T, c imm.Conf) {
	t.Helper()
	many := len(c.Models)
	if err := imm.Check(c); err != nil {
		t.Errorf("Check(%v): %v", c, err)
	}
	if _, err := imm.Start(c, someState()); err != nil {
		t.Errorf("Start(%v): %v", c, err)
	}
	if _, _, err := imm.Ahead(c, someImm(many), unit); err != nil {
		t.Errorf("Ahead(%v): %v", c, err)
	}
	if _, _, err := imm.Seen(c, someImm(many), someSeen()); err != nil {
		t.Errorf("Seen(%v): %v", c, err)
	}
}

// From 1 to 4 models of all kinds, in all orders, the same one more than once.
func TestIM1CheckModels(t *testing.T) {
	l := someModels()
	for _, a := range l {
		wantMayBe(t, imm.Conf{Models: []model.Model{a}, Rows: itself(1)})
		for _, b := range l {
			wantMayBe(t, imm.Conf{Models: []model.Model{a, b}, Rows: itself(2), Floor: 1})
			for _, c := range l {
				wantMayBe(t, imm.Conf{Models: []model.Model{a, b, c}, Rows: itself(3), Floor: 1 << 20})
				for _, d := range l {
					wantMayBe(t, imm.Conf{Models: []model.Model{a, b, c, d}, Rows: itself(4), Floor: highest})
				}
			}
		}
	}
}

// Each model at its bounds, at each place.
func TestIM1CheckModelsAtTheirBounds(t *testing.T) {
	for many := 1; many <= 4; many++ {
		for place := range many {
			for kind := range 4 {
				for _, m := range modelsAt(kind) {
					c := someConf(many)
					c.Models[place] = m
					wantMayBe(t, c)
				}
			}
		}
	}
}

// Rows by which each becomes itself, by which all become one, and any others; with floors from 0 to the greatest.
func TestIM1CheckRowsAndFloors(t *testing.T) {
	r := rand.New(rand.NewSource(1))
	for many := 1; many <= 4; many++ {
		all := [][][]int64{itself(many), someConf(many).Rows, sameRows(randomChances(r, many), many)}
		for place := range many {
			all = append(all, sameRows(alone(place, many), many), randomConf(r, many).Rows)
		}
		for _, rows := range all {
			for _, floor := range floors {
				c := someConf(many)
				c.Rows, c.Floor = rows, floor
				wantMayBe(t, c)
			}
		}
	}
	// A floor does not bound what stands in a row: this one is 0 and below it.
	wantMayBe(t, imm.Conf{Models: someModels()[:2], Rows: [][]int64{{one, 0}, {1, one - 1}}, Floor: highest})
}

func TestIM1CheckOfRandomConfs(t *testing.T) {
	r := rand.New(rand.NewSource(2))
	for i := range 2000 {
		if c := randomConf(r, 1+i%4); imm.Check(c) != nil {
			t.Errorf("Check(%v): %v", c, imm.Check(c))
		}
	}
}

// wrongModels are such as may not be: by their kind, their Noise, or their Rate.
func wrongModels() []model.Model {
	out := []model.Model{{}}
	for kind := range 4 {
		m := someModels()[kind]
		for _, n := range []int64{0, -1, -unit, greatestNoise + 1, 1<<32 + 1, most, least} {
			wrong := m
			wrong.Noise = n
			out = append(out, wrong)
		}
		rates := []int64{1, -1, leastRate, 1 << 26, greatestRate, most, least}
		if kind >= model.Left {
			rates = []int64{0, 1, leastRate - 1, greatestRate + 1, -leastRate, -1 << 26, 1<<32 + leastRate, most, least}
		}
		for _, n := range rates {
			wrong := m
			wrong.Rate = n
			out = append(out, wrong)
		}
	}
	for _, kind := range []int{-1, -2, 4, 5, 1 << 32, 1<<32 + 1, most, least} {
		out = append(out, model.Model{Kind: kind, Noise: unit}, model.Model{Kind: kind, Rate: 1 << 26, Noise: unit})
	}
	return out
}

// wrongChances are numbers that are no chances, however many there are to be.
func wrongChances() [][]int64 {
	return [][]int64{
		nil, {}, make([]int64, 0, 4), {0}, {0, 0}, {0, 0, 0}, {0, 0, 0, 0}, // none, or nothing
		{0, 0, 0, 0, one}, {one, 0, 0, 0, 0}, {quarter, quarter, quarter, quarter / 2, quarter / 2}, make([]int64, 9), // too many
		{one + 1}, {one - 1}, {2 * one}, {-one}, {1}, {top}, {most}, {least}, {one + 1<<32}, // one that is not all
		{half, half + 1}, {half - 1, half}, {one, 1}, {1, one}, {0, one - 1}, {357913942, 357913942, 357913941}, {357913941, 357913941, 357913941}, {quarter, quarter, quarter, quarter + 1}, {quarter - 1, quarter, quarter, quarter}, {one, one, one, one}, // one more or one less
		{-1, one + 1}, {one + 1, -1}, {one, 1, -1}, {-1, 1, one}, {one, -1, 1}, {-1, one, 0, 1}, {0, one, 1, -1}, {-one, 2 * one}, {-1, -1, one + 2}, {half, one, -half}, {top, one - top}, // one below 0
		{most, least + 1 + one}, {one + 1, most, least}, {most, most, 2, one}, {1 << 62, 1 << 62, 1 << 62, 1<<62 + one}, {least, least, one}, {least, 0, one, least}, // the sum wraps round to 2^30
	}
}

// wrongConfs are such as may not be, of so many models if that is not what is wrong.
func wrongConfs(many int) []imm.Conf {
	var out []imm.Conf
	add := func(change func(c *imm.Conf)) {
		c := someConf(many)
		change(&c)
		out = append(out, c)
	}
	for place := range many {
		for _, m := range wrongModels() {
			add(func(c *imm.Conf) { c.Models[place] = m })
		}
		good := someConf(many).Rows[place]
		wrong := append(wrongChances(), append(slices.Clone(good), 0), append([]int64{0}, good...), alone(0, many+1), alone(many, many+1))
		if many > 1 {
			wrong = append(wrong, alone(0, many-1), good[:many-1], good[1:])
		}
		for k := range many {
			for _, by := range []int64{1, -1, one, -one, 1 << 32, least} {
				changed := slices.Clone(good)
				changed[k] += by
				wrong = append(wrong, changed)
			}
		}
		for _, row := range wrong {
			add(func(c *imm.Conf) { c.Rows[place] = row })
		}
	}
	for _, floor := range wrongFloors {
		add(func(c *imm.Conf) { c.Floor = floor })
	}
	for rows := range 7 {
		if rows != many {
			add(func(c *imm.Conf) { c.Rows = sameRows(alone(0, many), rows) })
			add(func(c *imm.Conf) { c.Rows = sameRows(alone(0, max(rows, 1)), rows) })
		}
	}
	add(func(c *imm.Conf) { c.Rows = nil })
	add(func(c *imm.Conf) { c.Rows = make([][]int64, many) })
	add(func(c *imm.Conf) { c.Rows = append(c.Rows, nil) })
	add(func(c *imm.Conf) { c.Rows = append(c.Rows, c.Rows[0]) })
	add(func(c *imm.Conf) { c.Rows = c.Rows[:many-1] })
	return append(out, wrongMany(many)...)
}

// wrongMany are confs of no models, of more than four, and of more or fewer than rows; each else as it may be.
func wrongMany(many int) []imm.Conf {
	out := []imm.Conf{{}, {Rows: itself(many)}, {Models: []model.Model{}, Rows: [][]int64{}}, {Rows: [][]int64{nil}}, {Rows: [][]int64{{}}}}
	for count := range 10 {
		l := slices.Repeat(someModels(), 3)[:count]
		if count != many {
			out = append(out, imm.Conf{Models: l, Rows: itself(many)})
		}
		if count == 0 || count > 4 {
			out = append(out, imm.Conf{Models: l, Rows: itself(count)}, imm.Conf{Models: l, Rows: make([][]int64, count)}, imm.Conf{Models: l, Rows: sameRows(alone(0, 4), count)}, imm.Conf{Models: l, Rows: sameRows(alone(0, 1), count), Floor: highest})
		}
	}
	return append(out, imm.Conf{Models: slices.Repeat(someModels(), 16), Rows: itself(64)})
}

// A conf that may not be is ErrArg of each call that takes one, and nothing stands beside it.
func TestIM1AndIM2AndIM3WrongConfs(t *testing.T) {
	for many := 1; many <= 4; many++ {
		for _, c := range wrongConfs(many) {
			wantErr(t, call("Check", c), imm.Check(c), 1)
			wantNoStart(t, c, someState())
			wantNoAhead(t, c, someImm(many), unit)
			wantNoSeen(t, c, someImm(many), someSeen(), 1)
			if count := len(c.Models); count >= 1 && count <= 4 {
				wantNoAhead(t, c, someImm(count), unit)
				wantNoSeen(t, c, someImm(count), someSeen(), 1)
			}
			wantNoAhead(t, c, imm.Imm{}, unit)
			wantNoSeen(t, c, imm.Imm{}, someSeen(), 1)
		}
	}
}

// Five models, with as many rows, states and chances.
func TestIM2AndIM3OfFiveModels(t *testing.T) {
	five := imm.Conf{Models: append(someModels(), someModels()[0])}
	m := imm.Imm{States: append(someImm(4).States, someState())}
	for _, row := range [][]int64{alone(0, 5), alone(4, 5), {quarter, quarter, quarter, quarter / 2, quarter / 2}, alone(3, 4)} {
		five.Rows, m.Chances = sameRows(row, 5), row
		wantErr(t, call("Check", five), imm.Check(five), 1)
		wantNoStart(t, five, someState())
		wantNoAhead(t, five, m, unit)
		wantNoSeen(t, five, m, someSeen(), 1)
		wantNoOne(t, m)
	}
}
