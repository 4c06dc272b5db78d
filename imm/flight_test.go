package imm_test

import (
	"math/rand"
	"slices"
	"testing"

	"radome/api"
	"radome/imm"
	"radome/like"
	"radome/model"
	"radome/polar"
	"radome/predict"
	"radome/update"
)

// plots are of an aircraft that flies 120 m in a second, north-west, turns right for 16 seconds, and then flies north-east; by a radar that is exact to 50 m.
var plots = []api.Plot{
	{Range: 12982751725, Azimuth: 13835}, {Range: 12580681752, Azimuth: 13528}, {Range: 12312611133, Azimuth: 13238}, {Range: 11923582469, Azimuth: 12924},
	{Range: 11552975899, Azimuth: 12561}, {Range: 11408945067, Azimuth: 12172}, {Range: 11406590936, Azimuth: 11692}, {Range: 11543931110, Azimuth: 11288},
	{Range: 11941280255, Azimuth: 10981}, {Range: 12326619280, Azimuth: 10782}, {Range: 12832189635, Azimuth: 10568}, {Range: 13259321962, Azimuth: 10392},
}

// seenAfter are what each plot behind the first makes of the chances of the four models, and of X of all together; as another program reckoned it.
var seenAfter = []struct {
	chances [4]int64
	x       vector
}{
	{[4]int64{355845469, 246694066, 235240212, 235962077}, vector{12117854237, -118335940, -526618, 3403211666, 64713228, 287734}},
	{[4]int64{787685711, 157645039, 71274123, 57136951}, vector{11741931706, -100968493, 506129, 3654054764, 60029550, -116941}},
	{[4]int64{996679914, 63915184, 5620726, 7526000}, vector{11287569651, -108069626, -45113, 3887050504, 59520257, -14026}},
	{[4]int64{898792081, 139730396, 2256799, 32962548}, vector{10805705823, -113374877, -165655, 4140065392, 63528900, 86135}},
	{[4]int64{661252977, 240001431, 1273955, 171213461}, vector{10443823420, -99152002, 165782, 4457915618, 76557297, 302073}},
	{[4]int64{1338179, 27917538, 1050283, 1043435824}, vector{10264324620, -28285887, 43020, 4950073312, 124124241, 88432}},
	{[4]int64{51345349, 28052551, 1270763, 993073161}, vector{10219096230, 15180460, 1479, 5436147056, 124193969, -30743}},
	{[4]int64{21391936, 10446437, 1049178, 1040854273}, vector{10374454260, 62151147, 2316, 5910547152, 109663890, -7170}},
	{[4]int64{634549742, 306371313, 2454717, 130366052}, vector{10617323922, 67187551, 873, 6323367385, 103812378, -90015}},
	{[4]int64{771162321, 284589969, 16465832, 1523702}, vector{10872622848, 61506695, -21096, 6776570787, 110298713, 95735}},
	{[4]int64{869034720, 196134179, 3424789, 5148136}, vector{11129165565, 63512508, 46392, 7207589687, 108553005, -31260}},
}

// lastStates are those by each model behind the last plot, and all of them together.
func lastStates() []predict.State {
	return []predict.State{
		stateOf(vector{11128916349, 63279092, 0, 7207662814, 108693837, 0}, table{
			{932627650, 79956310, 0, 504534258, 39467424, 0},
			{79956310, 15865029, 0, 34307054, 4587372, 0},
			{0, 0, 16, 0, 0, 0},
			{504534258, 34307054, 0, 440293533, 41707739, 0},
			{39467424, 4587372, 0, 41707739, 9288026, 0},
			{0, 0, 0, 0, 0, 16},
		}),
		stateOf(vector{11130052939, 64290234, 253973, 7207384022, 108192745, -171132}, table{
			{1235840659, 192171993, 15796623, 710069789, 114952374, 10571604},
			{192171993, 67361975, 9329536, 99553564, 27487281, 3045259},
			{15796623, 9329536, 1857144, 7128492, 2152602, 224220},
			{710069789, 99553564, 7128492, 601432993, 109181011, 11066236},
			{114952374, 27487281, 2152602, 109181011, 43176358, 6913618},
			{10571604, 3045259, 224220, 11066236, 6913618, 1456017},
		}),
		stateOf(vector{11127162490, 37859058, 0, 7212685865, 122810431, 0}, table{
			{1215747902, 142703944, 0, 648100152, 104236740, 0},
			{142703944, 35619875, 0, 51846477, 15448772, 0},
			{0, 0, 16, 0, 0, 0},
			{648100152, 51846477, 0, 537499396, 78258978, 0},
			{104236740, 15448772, 0, 78258978, 21034262, 0},
			{0, 0, 0, 0, 0, 16},
		}),
		stateOf(vector{11138759880, 90350401, 0, 7199690713, 89020323, 0}, table{
			{1003260383, 106735106, 0, 532855078, 19070786, 0},
			{106735106, 23611931, 0, 50161122, 1822786, 0},
			{0, 0, 16, 0, 0, 0},
			{532855078, 50161122, 0, 470619251, 41131030, 0},
			{19070786, 1822786, 0, 41131030, 11648375, 0},
			{0, 0, 0, 0, 0, 16},
		}),
		stateOf(vector{11129165565, 63512508, 46392, 7207589687, 108553005, -31260}, table{
			{989873713, 102281426, 2924737, 542248506, 52338072, 1904599},
			{102281426, 30814492, 1738581, 44949177, 5208060, 533074},
			{2924737, 1738581, 348431, 1293021, 377264, 34769},
			{542248506, 44949177, 1293021, 470559176, 55093855, 2027536},
			{52338072, 5208060, 377264, 55093855, 17927748, 1273610},
			{1904599, 533074, 34769, 2027536, 1273610, 270145},
		}),
	}
}

// placeOf is a plot's.
func placeOf(t *testing.T, p api.Plot) polar.Seen {
	t.Helper()
	out, over, err := polar.Of(polar.Sensor{Range: 50 * unit, Turn: 1 << 20}, p)
	if over || err != nil {
		t.Fatal(over, err)
	}
	return out
}

// startAt is a conf's Imm of which just a place is known.
func startAt(t *testing.T, c imm.Conf, p polar.Seen) imm.Imm {
	t.Helper()
	s, err := predict.Blank(p.X, p.Y, 0, 0, 2500*unit, 10000*unit, 100*unit)
	m, err2 := imm.Start(c, s)
	if err != nil || err2 != nil {
		t.Fatal(err, err2)
	}
	return m
}

// onward is an Imm after a time, and then what it is once it has seen a place; nothing of it is too great.
func onward(t *testing.T, c imm.Conf, m imm.Imm, dt int64, p polar.Seen) imm.Imm {
	t.Helper()
	ahead, over, err := imm.Ahead(c, m, dt)
	out, over2, err2 := imm.Seen(c, ahead, p)
	if over || over2 || err != nil || err2 != nil {
		t.Fatalf("%v: %v, %v, %v, %v", m, over, over2, err, err2)
	}
	wantChances(t, "Ahead", ahead.Chances, len(c.Models), 0)
	wantChances(t, "Seen", out.Chances, len(c.Models), c.Floor)
	return out
}

// A flight that is followed by all four models: the turn is found as it comes, and as it ends.
func TestIM1ToIM4OfAFlight(t *testing.T) {
	c := someConf(4)
	m := startAt(t, c, placeOf(t, plots[0]))
	for i, p := range plots[1:] {
		m = onward(t, c, m, 4*unit, placeOf(t, p))
		all, over, err := imm.One(m)
		if want := seenAfter[i]; !slices.Equal(m.Chances, want.chances[:]) || all.X != want.x || over || err != nil {
			t.Errorf("plot %d: %v, %v, %v, %v; want %v", i+1, m.Chances, all.X, over, err, want)
		}
	}
	last := lastStates()
	wantOne(t, m, last[4], false)
	if !slices.Equal(m.States, last[:4]) {
		t.Errorf("at last: %v", m.States)
	}
}

// Chances sum to one after many steps, however the models change, and none is below the floor once something was seen.
func TestIM5ChancesSumToOneAfterManySteps(t *testing.T) {
	r := rand.New(rand.NewSource(14))
	for i := range 60 {
		many := 1 + i%4
		c := randomConf(r, many)
		for k := range c.Models { // so that it stays within some hundred kilometres
			c.Models[k].Noise = 1 + r.Int63n(4*unit)
		}
		m := startAt(t, c, placeOf(t, plots[0]))
		for step := range 100 {
			p := placeOf(t, api.Plot{Range: 10000*unit + r.Int63n(2000*unit), Azimuth: uint16(8000 + 9*step + r.Intn(200))})
			m = onward(t, c, m, unit+r.Int63n(4*unit), p)
		}
	}
}

// They do so too where nothing is seen for long, and where a chance is 0 for ever.
func TestIM5ChancesSumToOneAheadOfAll(t *testing.T) {
	r := rand.New(rand.NewSource(15))
	for i := range 40 {
		many := 1 + i%4
		c := randomConf(r, many)
		if i%3 == 0 {
			c.Rows = sameRows(alone(r.Intn(many), many), many)
		}
		m := startAt(t, c, someSeen())
		for range 30 {
			var err error
			if m, _, err = imm.Ahead(c, m, randomTime(r)); err != nil {
				t.Fatal(err)
			}
			wantChances(t, call("Ahead", c), m.Chances, many, 0)
		}
	}
}

// One model alone is that model's own filter: what layers 12 and 13 make of the state, by many steps, with a chance of one.
func TestIM5OneModelAlone(t *testing.T) {
	for kind := range 4 {
		for _, of := range modelsAt(kind) {
			for _, floor := range []int64{0, highest} {
				c := imm.Conf{Models: []model.Model{of}, Rows: itself(1), Floor: floor}
				m := startAt(t, c, placeOf(t, plots[0]))
				s := m.States[0]
				k := reckoner{t: t}
				for i := range 60 {
					p := placeOf(t, plots[i%len(plots)])
					m = onward(t, c, m, 4*unit, p)
					then, over, err := update.Next(k.step(of, s, 4*unit), p)
					k.tell(byUpdate, over, err)
					s = then
					wantImm(t, call("by one model", c), m, false, nil, imm.Imm{States: []predict.State{s}, Chances: []int64{one}}, k.told != which{})
					wantOne(t, m, s, false)
				}
			}
		}
	}
}

// So it is of any state, and of what is too great: just that of these layers is told, and how far the place is.
func TestIM5OneModelAloneOfRandomStates(t *testing.T) {
	r := rand.New(rand.NewSource(16))
	count := map[bool]int{}
	for range 4000 {
		c, m, p, dt := randomConf(r, 1), randomImm(r, 1), randomSeen(r, 1+r.Intn(62)), randomTime(r)
		k := reckoner{t: t}
		want := imm.Imm{States: []predict.State{k.step(c.Models[0], m.States[0], dt)}, Chances: []int64{one}}
		got, over, err := imm.Ahead(c, m, dt)
		wantImm(t, call("Ahead", c, m, dt), got, over, err, want, k.told != which{})
		count[over]++
		then, great, err := update.Next(m.States[0], p)
		if err != nil {
			wantNoSeen(t, c, m, p, 8)
			continue
		}
		gap, _, err := update.Of(m.States[0], p)
		_, far, err2 := like.Of(gap)
		if err != nil || err2 != nil {
			t.Fatal(err, err2)
		}
		got, over, err = imm.Seen(c, m, p)
		wantImm(t, call("Seen", c, m, p), got, over, err, imm.Imm{States: []predict.State{then}, Chances: []int64{one}}, great || far)
		count[over]++
	}
	if count[true] < 500 || count[false] < 500 {
		t.Errorf("so many too great: %v", count)
	}
}

// The same model more than once, with the same state, goes on as it does alone; the chances are parted as they were.
func TestIM5TheSameModelMoreThanOnce(t *testing.T) {
	for many := 2; many <= 4; many++ {
		for _, of := range someModels() {
			c := imm.Conf{Models: slices.Repeat([]model.Model{of}, many), Rows: someConf(many).Rows, Floor: 1000}
			single := imm.Conf{Models: c.Models[:1], Rows: itself(1), Floor: 1000}
			m, s := startAt(t, c, placeOf(t, plots[0])), startAt(t, single, placeOf(t, plots[0]))
			for _, p := range plots[1:] {
				m, s = onward(t, c, m, 4*unit, placeOf(t, p)), onward(t, single, s, 4*unit, placeOf(t, p))
				if !slices.Equal(m.States, slices.Repeat(s.States, many)) {
					t.Errorf("%v: %v; alone %v", c, m, s)
				}
			}
		}
	}
}
