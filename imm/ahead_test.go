package imm_test

import (
	"math/big"
	"math/rand"
	"slices"
	"testing"

	"radome/imm"
	"radome/model"
	"radome/predict"
)

// twoConf is a conf whose models and rows all differ.
func twoConf() imm.Conf {
	return imm.Conf{
		Models: []model.Model{{Kind: model.Pushed, Noise: 1 << 18}, {Kind: model.Right, Rate: 1 << 26, Noise: 3 << 17}},
		Rows:   [][]int64{{939524096, 134217728}, {67108864, 1006632960}}, Floor: 1 << 20,
	}
}

// twoAhead is what that makes of two states after 4 seconds and 3 last bits, as another program reckoned it.
func twoAhead() imm.Imm {
	return imm.Imm{Chances: []int64{635858865, 437882959}, States: []predict.State{
		stateOf(vector{10355370106, -139545433, -894495, -7302012973, 84618072, -1981587}, table{
			{31898330423, 4029995702, -12822649, 2837072365, 530711771, 111882835},
			{4029995702, 1131897844, 97339433, -1091517479, 297691055, 9361033},
			{-12822649, 97339433, 39598417, -41989692, 14098594, 2002231},
			{2837072365, -1091517479, -41989692, 28929755554, 2295560046, 752774018},
			{530711771, 297691055, 14098594, 2295560046, 850455804, 121478430},
			{111882835, 9361033, 2002231, 752774018, 121478430, 27805577},
		}),
		stateOf(vector{10505382907, -81402204, 0, -7209946244, 139952602, 0}, table{
			{39881514999, 5198032218, 0, 5471244432, 1973074990, 0},
			{5198032218, 1585103074, 0, 463945710, 581757098, 0},
			{0, 0, 16, 0, 0, 0},
			{5471244432, 463945710, 0, 25416028457, 1295529650, 0},
			{1973074990, 581757098, 0, 1295529650, 671189483, 0},
			{0, 0, 0, 0, 0, 16},
		}),
	}}
}

func TestIM2OfAnOrdinaryCase(t *testing.T) {
	m := imm.Imm{Chances: []int64{700000001, 373741823}, States: []predict.State{
		stateOf(vector{10905202745, -136314103, -1048577, -7654604805, 92274787, -2097149}, table{
			{13381687281, 671139587, -89192699, 10091527982, -959810333, 98041538},
			{671139587, 982006545, -62053725, -1853610341, 209954765, 958972},
			{-89192699, -62053725, 38859941, -83868217, 4063567, 374039},
			{10091527982, -1853610341, -83868217, 30206833666, -2048602816, 501536294},
			{-959810333, 209954765, 4063567, -2048602816, 279345411, 8974371},
			{98041538, 958972, 374039, 501536294, 8974371, 26464939},
		}),
		stateOf(vector{10937691935, -126877751, 3145735, -7701790709, 99614719, 1048593}, table{
			{25653846621, -929359097, -110942714, 3017997778, 201773993, -202319239},
			{-929359097, 1029523737, -71206541, -2106559698, 852270435, -15608713},
			{-110942714, -71206541, 35664957, 138827956, 30935363, 32574828},
			{3017997778, -2106559698, 138827956, 28571609554, -2902434866, 304935913},
			{201773993, 852270435, 30935363, -2902434866, 1432269824, 22653879},
			{-202319239, -15608713, 32574828, 304935913, 22653879, 46731929},
		}),
	}}
	got, over, err := imm.Ahead(twoConf(), m, 4*unit+3)
	wantImm(t, "Ahead", got, over, err, twoAhead(), false)
	checkAhead(t, twoConf(), m, 4*unit+3)
}

// At 0, with 10 m in a second: after a second at 10 m, by one model of a chance of one.
func TestIM2TheExample(t *testing.T) {
	c := imm.Conf{Models: []model.Model{{Kind: model.Still, Noise: unit}}, Rows: itself(1)}
	p := onDiagonal(100*unit, 4*unit, unit, 100*unit, 4*unit, unit)
	m := imm.Imm{States: []predict.State{stateOf(vector{1: 10 * unit, 2: 5 * unit, 4: -3 * unit}, p)}, Chances: []int64{one}}
	got, over, err := imm.Ahead(c, m, unit)
	later := both(onDiagonal(104*unit+unit/4+16, 5*unit+16, 16, 104*unit+unit/4+16, 5*unit+16, 16), place{0, 1, 4*unit + unit/2}, place{3, 4, 4*unit + unit/2})
	wantImm(t, "Ahead", got, over, err, imm.Imm{States: []predict.State{stateOf(vector{10 * unit, 10 * unit, 0, -3 * unit, -3 * unit, 0}, later)}, Chances: []int64{one}}, false)
}

// What is mixed is mixed first, and then goes on: each by its own model, with the chances of what it became.
func TestIM2MixedThenOn(t *testing.T) {
	c := imm.Conf{Models: []model.Model{{Kind: model.Still, Noise: 1}, {Kind: model.Pushed, Noise: 1}}, Rows: [][]int64{{one, 0}, {half, half}}}
	p := onDiagonal(100*unit, unit, unit, 100*unit, unit, unit)
	m := imm.Imm{States: []predict.State{stateOf(vector{}, p), stateOf(vector{0: 12 * unit, 2: 6 * unit}, p)}, Chances: []int64{half, half}}
	got, over, err := imm.Ahead(c, m, 2*unit)
	// To the first come all of it and half of the second: two thirds and one; of the second is left what it was, pushed by 6 for 2 seconds.
	if len(got.States) != 2 || got.States[0].X != (vector{0: 4 * unit}) || got.States[1].X != (vector{24 * unit, 12 * unit, 6 * unit}) {
		t.Errorf("Ahead: %v", got.States)
	}
	if !slices.Equal(got.Chances, []int64{3 * quarter, quarter}) || over || err != nil {
		t.Errorf("Ahead: %v, %v, %v", got.Chances, over, err)
	}
	// The first is as unsure by as much as both were apart: 32 more; and by its velocity for 2 seconds: 4 times 1.
	if n := got.States[0].P.A[0]; n != 136*unit+20 {
		t.Errorf("Ahead: %d", n)
	}
	checkAhead(t, c, m, 2*unit)
}

// By rows by which each becomes itself, each goes on by its model as if it were alone, and the chances stay, those of 0 and of 2^30 too.
func TestIM2EachBecomesItself(t *testing.T) {
	r := rand.New(rand.NewSource(4))
	for i := range 1500 {
		many := 1 + i%4
		c, m, dt := randomConf(r, many), randomImm(r, many), randomTime(r)
		c.Rows = itself(many)
		for k := range m.States { // so near that nothing of them is too great together
			m.States[k].X = m.States[0].X
		}
		if i%3 == 0 {
			m.Chances = alone(r.Intn(many), many)
		}
		k := reckoner{t: t}
		want := imm.Imm{Chances: m.Chances}
		for place, s := range m.States {
			want.States = append(want.States, k.step(c.Models[place], s, dt))
		}
		got, over, err := imm.Ahead(c, m, dt)
		wantImm(t, call("Ahead", c, m, dt), got, over, err, want, k.told != which{})
	}
}

// Where all become one, that one is what all are together, gone on by its model; its chance is one, that of all others 0, and these go on as they were.
func TestIM2AllBecomeOne(t *testing.T) {
	r := rand.New(rand.NewSource(5))
	for i := range 1500 {
		many := 1 + i%4
		c, m, dt := randomConf(r, many), randomImm(r, many), randomTime(r)
		for k := range m.States {
			m.States[k] = nearState(r)
		}
		to := r.Intn(many)
		c.Rows = sameRows(alone(to, many), many)
		all, great, err := imm.One(m)
		if great || err != nil {
			t.Fatal(great, err)
		}
		k := reckoner{t: t}
		want := imm.Imm{Chances: alone(to, many)}
		for place, s := range m.States {
			if place == to {
				s = all
			}
			want.States = append(want.States, k.step(c.Models[place], s, dt))
		}
		got, over, err := imm.Ahead(c, m, dt)
		wantImm(t, call("Ahead", c, m, dt), got, over, err, want, k.told != which{})
		checkAhead(t, c, m, dt)
	}
}

// Each of the four kinds at each place, and the same model more than once.
func TestIM2EachByItsOwnModel(t *testing.T) {
	for _, a := range someModels() {
		for _, b := range someModels() {
			c := imm.Conf{Models: []model.Model{a, b, a, b}, Rows: itself(4)}
			m := imm.Imm{States: slices.Repeat([]predict.State{someState()}, 4), Chances: started[3]}
			got, over, err := imm.Ahead(c, m, 4*unit)
			if over || err != nil || len(got.States) != 4 {
				t.Fatal(got, over, err)
			}
			if got.States[0] != got.States[2] || got.States[1] != got.States[3] || (got.States[0] == got.States[1]) != (a == b) {
				t.Errorf("Ahead(%v): %v", c, got)
			}
			checkAhead(t, c, m, 4*unit)
		}
	}
}

// The Noise of a model alone, and its Rate alone.
func TestIM2ByNoiseAndRate(t *testing.T) {
	slow, fast := model.Model{Kind: model.Left, Rate: leastRate, Noise: 5 * unit}, model.Model{Kind: model.Left, Rate: greatestRate, Noise: 5 * unit}
	calm, wild := model.Model{Kind: model.Still, Noise: 1}, model.Model{Kind: model.Still, Noise: greatestNoise}
	for _, l := range [][]model.Model{{slow, fast}, {fast, slow}, {calm, wild}, {wild, calm}, {slow, wild, fast, calm}} {
		many := len(l)
		c := someConf(many)
		c.Models = l
		checkAhead(t, c, someImm(many), 4*unit)
		c.Rows = itself(many)
		m := someImm(many)
		got, over, err := imm.Ahead(c, m, 4*unit)
		if over || err != nil {
			t.Fatal(over, err)
		}
		k := reckoner{t: t}
		for place, s := range m.States {
			if want := k.step(l[place], s, 4*unit); got.States[place] != want {
				t.Errorf("Ahead by %v: %v at %d; want %v", l, got.States[place], place, want)
			}
		}
	}
}

// The shortest time and the longest, and those next to them.
func TestIM2Times(t *testing.T) {
	for _, dt := range []int64{1, 2, 1023, 1024, unit - 1, unit, unit + 1, 4 * unit, 16 * unit, longest - 1, longest} {
		for many := 1; many <= 4; many++ {
			if told := checkAhead(t, someConf(many), someImm(many), dt); told != (which{}) {
				t.Errorf("%d: %v", dt, told)
			}
			for kind := range 4 {
				for _, m := range modelsAt(kind) {
					c := someConf(many)
					c.Models[many-1] = m
					checkAhead(t, c, someImm(many), dt)
				}
			}
		}
	}
	// After a last bit of time someone is where he was; after 64 seconds, 64 times his velocity on.
	c := imm.Conf{Models: []model.Model{{Kind: model.Still, Noise: 1}}, Rows: itself(1)}
	m := imm.Imm{States: []predict.State{stateOf(vector{0: 5, 1: 100 * unit}, table{})}, Chances: []int64{one}}
	for dt, want := range map[int64]int64{1: 105, longest: 6400*unit + 5} {
		if got, over, err := imm.Ahead(c, m, dt); err != nil || over || got.States[0].X != (vector{want, 100 * unit}) {
			t.Errorf("Ahead by %d: %v, %v, %v", dt, got, over, err)
		}
	}
}

func TestIM2OfRandomImms(t *testing.T) {
	r := rand.New(rand.NewSource(6))
	count := map[bool]int{}
	for i := range 4000 {
		many := 1 + i%4
		told := checkAhead(t, randomConf(r, many), randomImm(r, many), randomTime(r))
		count[told != which{}]++
		if told[byModel] {
			t.Errorf("by a model's step or noise: %v", told)
		}
	}
	if count[true] < 600 || count[false] < 600 {
		t.Errorf("so many too great: %v", count)
	}
}

// IM5 and P3: chances after a change sum to one, and are off by less than a last bit; the floor is not looked at.
func TestIM2AndP3ChancesAfterAChange(t *testing.T) {
	r := rand.New(rand.NewSource(7))
	for i := range 3000 {
		many := 1 + i%4
		c, m := randomConf(r, many), someImm(many)
		m.Chances = randomChances(r, many)
		got, _, err := imm.Ahead(c, m, unit)
		if err != nil {
			t.Fatal(err)
		}
		wantChances(t, call("Ahead", c, m.Chances), got.Chances, many, 0)
		for to, n := range got.Chances {
			off := big.NewInt(n)
			off.Mul(off, big.NewInt(one))
			for i, row := range c.Rows {
				off.Sub(off, new(big.Int).Mul(big.NewInt(m.Chances[i]), big.NewInt(row[to])))
			}
			if off.CmpAbs(big.NewInt(one)) >= 0 {
				t.Errorf("Ahead(%v, %v): %v is off by a last bit or more", c, m.Chances, got.Chances)
			}
		}
	}
	c := imm.Conf{Models: someModels()[:2], Rows: sameRows(alone(1, 2), 2), Floor: highest}
	if got, _, err := imm.Ahead(c, someImm(2), unit); err != nil || !slices.Equal(got.Chances, []int64{0, one}) {
		t.Errorf("Ahead: %v, %v", got.Chances, err)
	}
}
