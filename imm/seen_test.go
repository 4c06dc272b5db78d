package imm_test

import (
	"math/rand"
	"slices"
	"testing"

	"radome/chance"
	"radome/imm"
	"radome/polar"
	"radome/predict"
)

// The states that the ordinary case of Ahead ends with have seen a place; as another program reckoned it.
func TestIM3OfAnOrdinaryCase(t *testing.T) {
	p := polar.Seen{X: 9890*unit + 1, Y: -6950*unit - 3, XX: 2900*unit + 5, YY: 1700*unit + 9, XY: -800*unit - 7}
	want := imm.Imm{Chances: []int64{711206160, 362535664}, States: []predict.State{
		stateOf(vector{10369555560, -138395317, -918289, -7288052546, 85849673, -1602896}, table{
			{2742691785, 394500490, 249556, -705262151, -28787062, -14966915},
			{394500490, 609948389, 97035946, -175846421, 334346052, 28703472},
			{249556, 97035946, 39538084, -2160336, 17347618, 3049653},
			{-705262151, -175846421, -2160336, 1652924386, 122776050, 41966324},
			{-28787062, 334346052, 17347618, 122776050, 674698642, 64523981},
			{-14966915, 28703472, 3049653, 41966324, 64523981, 9241045},
		}),
		stateOf(vector{10377220640, -97517649, 0, -7285814538, 131190273, 0}, table{
			{2774423896, 372500944, 0, -697553962, 92462300, 0},
			{372500944, 955252688, 0, -108397412, 346746900, 0},
			{0, 0, 16, 0, 0, 0},
			{-697553962, -108397412, 0, 1634771744, 37390494, 0},
			{92462300, 346746900, 0, 37390494, 536593238, 0},
			{0, 0, 0, 0, 0, 16},
		}),
	}}
	got, over, err := imm.Seen(twoConf(), twoAhead(), p)
	wantImm(t, "Seen", got, over, err, want, false)
	checkSeen(t, twoConf(), twoAhead(), p)
	wantOne(t, want, stateOf(vector{10372143580, -124593477, -608240, -7287296910, 101158367, -1061698}, table{
		{2765936574, 453899220, 1666511, -699000892, 86273870, -7293115},
		{453899220, 1082920628, 72278893, -133561431, 733826813, 32986656},
		{1666511, 72278893, 26368391, -992609, 20370414, 2333905},
		{-699000892, -133561431, -992609, 1647863613, 115588577, 28562005},
		{86273870, 733826813, 20370414, 115588577, 1066520112, 58238524},
		{-7293115, 32986656, 2333905, 28562005, 58238524, 6668896},
	}), false)
}

// stillConf has so many models of which nothing but their number is seen here, with a floor.
func stillConf(many int, floor int64) imm.Conf {
	return imm.Conf{Models: someModels()[:many], Rows: itself(many), Floor: floor}
}

// immAt are states at some places, each as unsure, with chances.
func immAt(p table, chances []int64, at ...vector) imm.Imm {
	out := imm.Imm{Chances: chances}
	for _, x := range at {
		out.States = append(out.States, stateOf(x, p))
	}
	return out
}

// wantSeen asks for those chances, and for what IM3 says.
func wantSeen(t *testing.T, c imm.Conf, m imm.Imm, p polar.Seen, chances ...int64) {
	t.Helper()
	got, over, err := imm.Seen(c, m, p)
	if !slices.Equal(got.Chances, chances) || over || err != nil {
		t.Errorf("Seen(%v, %v, %v): %v, %v, %v; want %v", c, m, p, got.Chances, over, err, chances)
	}
	checkSeen(t, c, m, p)
}

// Where both together are as unsure as one, those that are one away are less likely by e to the power of a half, and so on; and the less sure one, at the place, is less likely too.
func TestIM3ChancesByHand(t *testing.T) {
	p := onDiagonal(unit/2, unit, unit, unit/2, unit, unit)
	seen := polar.Seen{XX: unit / 2, YY: unit / 2}
	wantSeen(t, stillConf(2, 0), immAt(p, []int64{half, half}, vector{}, vector{unit}), seen, 668360618, 405381206)
	wantSeen(t, stillConf(2, 0), immAt(p, []int64{half, half}, vector{3: -unit}, vector{}), seen, 405381206, 668360618)
	wantSeen(t, stillConf(3, 1<<20), immAt(p, []int64{quarter, half, quarter}, vector{}, vector{3: 2 * unit}, vector{0: unit, 3: -unit}), seen, 654428754, 177899359, 241413711)
	m := immAt(p, []int64{half, half}, vector{}, vector{})
	m.States[1].P.A[0] += 3 * unit // four at the place: the half of its logarithm is that of two
	wantSeen(t, stillConf(2, 0), m, seen, 715827997, 357913827)
	// How fast they are is not seen.
	wantSeen(t, stillConf(2, 0), immAt(p, []int64{half, half}, vector{1: 90 * unit, 2: unit}, vector{4: -70 * unit, 5: unit}), seen, half, half)
}

// Each that is as sure as the place ends in the middle of both.
func TestIM3EachIsUpdated(t *testing.T) {
	m := immAt(ones(), []int64{half, half}, vector{0: -unit, 1: 7 * unit}, vector{0: unit, 3: 10 * unit})
	got, over, err := imm.Seen(stillConf(2, 0), m, polar.Seen{X: unit, Y: 2 * unit, XX: unit, YY: unit})
	p := onDiagonal(unit/2, unit, unit, unit/2, unit, unit)
	want := []predict.State{stateOf(vector{0: 0, 1: 7 * unit, 3: unit}, p), stateOf(vector{0: unit, 3: 6 * unit}, p)}
	if !slices.Equal(got.States, want) || over || err != nil {
		t.Errorf("Seen: %v, %v, %v", got, over, err)
	}
}

// States that are all the same are all as likely: the chances stay but for the floor, those of 0 and of 2^30 too.
func TestIM3AllAsLikely(t *testing.T) {
	r := rand.New(rand.NewSource(8))
	for i := range 1500 {
		many := 1 + i%4
		m := imm.Imm{States: slices.Repeat([]predict.State{someState()}, many), Chances: randomChances(r, many)}
		c := randomConf(r, many)
		if i%5 == 0 {
			m.Chances = alone(r.Intn(many), many)
		}
		want, err := chance.Of(m.Chances, c.Floor)
		if err != nil {
			t.Fatal(err)
		}
		wantSeen(t, c, m, someSeen(), want...)
		c.Floor = 0
		wantSeen(t, c, m, someSeen(), m.Chances...)
	}
}

// One that is there, and all others far away: these have nothing but the floor.
func TestIM3TheOthersHaveTheFloor(t *testing.T) {
	for many := 1; many <= 4; many++ {
		for there := range many {
			m := imm.Imm{Chances: started[many-1]}
			for i := range many {
				x := vector{0: 100000 * unit, 3: int64(i) * unit}
				if i == there {
					x = vector{}
				}
				m.States = append(m.States, stateOf(x, ones()))
			}
			for _, floor := range floors {
				want := slices.Repeat([]int64{floor}, many)
				want[there] = one - int64(many-1)*floor
				wantSeen(t, stillConf(many, floor), m, polar.Seen{XX: unit, YY: unit}, want...)
				// A chance of 2^30 stays all but the others' floors, though it is far away; and one of 0 gets no more than that, though it is there.
				for sure := range many {
					want = slices.Repeat([]int64{floor}, many)
					want[sure] = one - int64(many-1)*floor
					other := imm.Imm{States: m.States, Chances: alone(sure, many)}
					wantSeen(t, stillConf(many, floor), other, polar.Seen{XX: unit, YY: unit}, want...)
				}
			}
		}
	}
}

// A place that is seen as well as may be: all states are there then, for sure. One that is seen as badly as may be: nothing is learned of it.
func TestIM3PlacesSeenWellAndBadly(t *testing.T) {
	for many := 1; many <= 4; many++ {
		m := someImm(many)
		for k := range many { // as unsure, so that they are as likely where nothing is learned
			m.States[k].P.A[0] = m.States[0].P.A[0]
		}
		c := someConf(many)
		well := polar.Seen{X: 10350 * unit, Y: -7250 * unit}
		got, over, err := imm.Seen(c, m, well)
		if over || err != nil {
			t.Fatal(over, err)
		}
		for _, s := range got.States {
			if off := max(s.X[0]-well.X, well.X-s.X[0], s.X[3]-well.Y, well.Y-s.X[3]); off > unit/1000 || s.P.A[0] > unit/1000 || s.P.A[21] > unit/1000 {
				t.Errorf("Seen(%v): %v", well, s)
			}
		}
		checkSeen(t, c, m, well)
		badly := polar.Seen{X: 10350 * unit, Y: -7250 * unit, XX: top - 2500*unit, YY: top - 2400*unit}
		want, err := chance.Of(m.Chances, c.Floor)
		if err != nil {
			t.Fatal(err)
		}
		got, over, err = imm.Seen(c, m, badly)
		wantImm(t, "badly", got, over, err, imm.Imm{States: m.States, Chances: want}, false)
		badly.XX++ // so badly that it is too great, with each of the states
		got, over, err = imm.Seen(c, m, badly)
		wantImm(t, "too badly", got, over, err, imm.Imm{States: m.States, Chances: want}, true)
		badly.XX, badly.YY = top, top
		got, over, err = imm.Seen(c, m, badly)
		wantImm(t, "as badly as may be", got, over, err, imm.Imm{States: m.States, Chances: want}, true)
	}
}

func TestIM3OfRandomImms(t *testing.T) {
	r := rand.New(rand.NewSource(9))
	count := map[bool]int{}
	none := 0
	for i := range 16000 {
		many := 1 + i%4
		c, m, p := randomConf(r, many), randomImm(r, many), randomSeen(r, 1+r.Intn(62))
		if i%3 == 0 {
			m.States[r.Intn(many)] = nearState(r)
		}
		if !areTaken(m.States, p) {
			wantNoSeen(t, c, m, p, 8)
			none++
			continue
		}
		told := checkSeen(t, c, m, p)
		count[told != which{}]++
		if told[byWeights] {
			t.Errorf("by Weights: %v", told)
		}
	}
	if count[true] < 1000 || count[false] < 1000 || none < 1000 {
		t.Errorf("so many too great: %v; %d without factors", count, none)
	}
}

// Models and rows are not looked at, but for whether they may be: by others the same is seen.
func TestIM3HangsOnTheFloorAlone(t *testing.T) {
	r := rand.New(rand.NewSource(10))
	for i := range 400 {
		many := 1 + i%4
		c, other := randomConf(r, many), randomConf(r, many)
		other.Floor = c.Floor
		want, great, err := imm.Seen(c, someImm(many), someSeen())
		if great || err != nil {
			t.Fatal(great, err)
		}
		got, over, err := imm.Seen(other, someImm(many), someSeen())
		wantImm(t, call("Seen", other), got, over, err, want, false)
	}
}
