package polar_test

import (
	"math"
	"math/rand"
	"testing"

	"radome/api"
	"radome/polar"
)

// The document's example: along the y axis XX is across, YY is along.
func TestPO2Example(t *testing.T) {
	s := polar.Sensor{Range: 50 * metre, Turn: radian / 64}
	across := int64(256000000) // 15.625 m, times itself: 244.140625
	wantSeen(t, s, plot(1000*metre, 0), polar.Seen{Y: 1000 * metre, XX: across, YY: 2500 * metre})
}

// Along the axes nothing is rounded but what is along and across; at the other end of each it is the same, but for the place.
func TestPO2OfOnTheAxes(t *testing.T) {
	for _, s := range sensors() {
		for _, far := range fars() {
			along, across := steppedSpread(s, far)
			wantSeen(t, s, plot(far, 0), polar.Seen{Y: far, XX: across, YY: along})
			wantSeen(t, s, plot(far, quarter), polar.Seen{X: far, XX: along, YY: across})
			wantSeen(t, s, plot(far, 2*quarter), polar.Seen{Y: -far, XX: across, YY: along})
			wantSeen(t, s, plot(far, 3*quarter), polar.Seen{X: -far, XX: along, YY: across})
		}
	}
}

// Halfway between the axes both squares, and the product, are a half; which way XY goes is told by the sides.
func TestPO2OfHalfwayBetween(t *testing.T) {
	s := polar.Sensor{Range: 6 * metre, Turn: radian / 4}
	const place = 11863283 // the root of 128, in metres
	cases := []struct {
		azimuth uint16
		x, y    int64
		xy      int64
	}{
		{eighth, place, place, 10 * metre}, {3 * eighth, place, -place, -10 * metre},
		{5 * eighth, -place, -place, 10 * metre}, {7 * eighth, -place, place, -10 * metre},
	}
	for _, c := range cases { // 16 m away: 36 along, 16 across
		want := polar.Seen{X: c.x, Y: c.y, XX: 26 * metre, YY: 26 * metre, XY: c.xy}
		wantSeen(t, s, plot(16*metre, c.azimuth), want)
	}
}

// Halfway between the axes each sum is half of what is along and across: halves to the even one, of both together, not of each.
func TestPO2OfAHalfOnTheDiagonals(t *testing.T) {
	cases := []struct{ rangeOf, along, turnOf, across, both, less int64 }{
		{1024, 1, 1, 0, 0, 0}, // half a last bit
		{1774, 3, 1, 0, 2, 2},
		{2290, 5, 1, 0, 2, 2},
		{2709, 7, 1, 0, 4, 4},
		{1, 0, 1024, 1, 0, 0},
		{1, 0, 1774, 3, 2, -2},
		{1, 0, 2290, 5, 2, -2},
		{1024, 1, 1024, 1, 1, 0}, // a half and a half are one: none of both is rounded alone
		{1774, 3, 1024, 1, 2, 1},
		{1024, 1, 1774, 3, 2, -1},
		{1449, 2, 1774, 3, 2, 0}, // two and a half; half a last bit below nothing
		{1774, 3, 2048, 4, 4, 0},
		{2048, 4, 2709, 7, 6, -2},
	}
	for _, c := range cases {
		s, far := polar.Sensor{Range: c.rangeOf, Turn: c.turnOf}, int64(1<<30)
		wantSpread(t, s, far, c.along, c.across)
		const place = 759250125
		wantSeen(t, s, plot(far, eighth), polar.Seen{X: place, Y: place, XX: c.both, YY: c.both, XY: c.less})
		wantSeen(t, s, plot(far, 3*eighth), polar.Seen{X: place, Y: -place, XX: c.both, YY: c.both, XY: -c.less})
		wantSeen(t, s, plot(far, 5*eighth), polar.Seen{X: -place, Y: -place, XX: c.both, YY: c.both, XY: c.less})
		wantSeen(t, s, plot(far, 7*eighth), polar.Seen{X: -place, Y: place, XX: c.both, YY: c.both, XY: -c.less})
	}
}

// halves are plots of which one sum lies on just a half before it is rounded.
var halves = []struct {
	rangeOf, turnOf, far int64
	azimuth              uint16
	want                 polar.Seen
	which                int // XX, YY or XY
}{
	{32320550, 33002664, 714043658, 25386, polar.Seen{X: 464212995, Y: -542553814, XX: 686265076, YY: 769314636, XY: -265204236}, 0},
	{13462828, 149278781, 196221208, 18480, polar.Seen{X: 192272669, Y: -39166098, XX: 194240712, YY: 688332824, XY: 105004000}, 0},
	{25192293, 64872456, 304160056779, 39615, polar.Seen{X: -185630969458, Y: -240944979703, XX: 202095794008806, YY: 119956356996809, XY: -155699968800140}, 0},
	{5988512, 225621573, 24098221443, 17293, polar.Seen{X: 24006766386, Y: -2097485307, XX: 185284476944, YY: 24267717444676, XY: 2120281762833}, 0},
	{7573192, 220853584, 840592016, 28203, polar.Seen{X: 356263666, Y: -761361371, XX: 23397708618, YY: 5165842336, XY: 10922890840}, 1},
	{5819879, 31931525, 95850484933, 51285, polar.Seen{X: -93853237522, Y: 19464975512, XX: 319587271386, YY: 7429135205300, XY: 1540781225300}, 1},
	{31443309, 23061828, 566805554070, 30664, polar.Seen{X: 113561337991, Y: -555312847466, XX: 135663609591028, YY: 5674375591832, XY: 27742981338819}, 1},
	{12098386, 238109301, 120100521, 52437, polar.Seen{X: -114193171, Y: 37202888, XX: 191105174, YY: 624946158, XY: 158123668}, 1},
	{3050314, 195928992, 502950897615, 6572, polar.Seen{X: 296344455746, Y: 406373681232, XX: 5243833596668749, YY: 2788633041058317, XY: -3824019819895958}, 2},
	{15124071, 68469491, 2275674554, 45566, polar.Seen{X: -2142500828, Y: -767062500, XX: 2475043588, YY: 17825462358, XY: -6303808936}, 2},
	{4749389, 82366845, 10017938730, 19558, polar.Seen{X: 9557673493, Y: -3001661857, XX: 50582103819, YY: 512638506878, XY: 160991362754}, 2},
	{13886369, 1048553, 28151888399, 49901, polar.Seen{X: -28079335547, Y: 2019835386, XX: 186661878, YY: 718005443, XY: 38420022}, 2},
}

func TestPO2OfAHalfIsEven(t *testing.T) {
	for _, c := range halves {
		s, p := polar.Sensor{Range: c.rangeOf, Turn: c.turnOf}, plot(c.far, c.azimuth)
		xx, yy, xy := exactSums(s, p)
		on := [3]bool{onAHalf(xx, 30), onAHalf(yy, 30), onAHalf(xy, 30)}
		even := [3]int64{c.want.XX, c.want.YY, c.want.XY}
		if !on[c.which] || even[c.which]%2 != 0 {
			t.Errorf("%v, %v: no half, or an odd answer: %v", s, p, c.want)
		}
		wantSeen(t, s, p, c.want)
	}
}

// The place is layer 5's: its halves too.
func TestPO2PlaceOfAHalfIsEven(t *testing.T) {
	s := polar.Sensor{Range: 1, Turn: 1}
	for _, c := range []struct{ far, place int64 }{
		{1 << 29, 379625062}, {3 << 29, 1138875188}, {5 << 29, 1898125312}, {7 << 29, 2657375438},
	} {
		got, _, err := polar.Of(s, plot(c.far, eighth))
		if got.X != c.place || got.Y != c.place || err != nil {
			t.Errorf("%d: %v, %v; want %d", c.far, got, err, c.place)
		}
		got, _, err = polar.Of(s, plot(c.far, 5*eighth))
		if got.X != -c.place || got.Y != -c.place || err != nil {
			t.Errorf("%d: %v, %v; want %d", c.far, got, err, -c.place)
		}
	}
}

// Every direction, with all at its greatest, with all at its least, and with something ordinary.
func TestPO2OfInEveryDirection(t *testing.T) {
	ways := []struct {
		s   polar.Sensor
		far int64
	}{
		{polar.Sensor{Range: greatestRange, Turn: greatestTurn}, greatestFar},
		{polar.Sensor{Range: greatestRange, Turn: 1}, greatestFar},
		{polar.Sensor{Range: 1, Turn: greatestTurn}, greatestFar},
		{polar.Sensor{Range: 1, Turn: 1}, 0},
		{polar.Sensor{Range: 50*metre + 1, Turn: radian/1000 + 1}, 100000*metre + 3},
	}
	for azimuth := range 1 << 16 {
		for _, w := range ways {
			p := plot(w.far, uint16(azimuth))
			wantSeen(t, w.s, p, steppedSeen(w.s, p))
		}
	}
}

func TestPO2OfAtTheEdges(t *testing.T) {
	for _, s := range sensors() {
		for _, far := range fars() {
			for _, azimuth := range directions() {
				p := plot(far, azimuth)
				wantSeen(t, s, p, steppedSeen(s, p))
			}
		}
	}
}

func TestPO2OfStepByStep(t *testing.T) {
	r := rand.New(rand.NewSource(3))
	sides := map[bool]int{}
	for range 50000 {
		s, p := randomSensor(r), randomPlot(r)
		want := steppedSeen(s, p)
		wantSeen(t, s, p, want)
		sides[want.XY < 0]++
	}
	if sides[true] < 10000 || sides[false] < 10000 {
		t.Errorf("XY goes one way nearly always: %v", sides)
	}
}

// The last direction ahead of a whole turn lies just left of the y axis.
func TestPO2OfTheLastDirection(t *testing.T) {
	s := polar.Sensor{Range: greatestRange, Turn: greatestTurn}
	got, over, err := polar.Of(s, plot(greatestFar, last))
	first, _, _ := polar.Of(s, plot(greatestFar, 1))
	if over || err != nil || got.X >= 0 || got.Y <= 0 || got.XY <= 0 || first.XY >= 0 {
		t.Errorf("%v, %v, %v; the first: %v", got, over, err, first)
	}
	// The sine is 102943.7, the cosine 2^30 less 4.9 last bits; rounded they are these.
	if got.X != -102944*1024 || got.Y != greatestFar-5*1024 {
		t.Errorf("%v", got)
	}
}

// What sines and cosines of another making say of a place, and of how it is spread: x is by the sine, y by the cosine.
func TestPO2OfByFloats(t *testing.T) {
	r := rand.New(rand.NewSource(4))
	for range 20000 {
		s, p := randomSensor(r), randomPlot(r)
		got, _, err := polar.Of(s, p)
		sine, cosine := math.Sincos(float64(p.Azimuth) * math.Pi / (1 << 15))
		a, b, _ := polar.Spread(s, p.Range)
		along, across := float64(a), float64(b)
		pairs := [][2]float64{
			{float64(got.X), float64(p.Range) * sine}, {float64(got.Y), float64(p.Range) * cosine},
			{float64(got.XX), along*sine*sine + across*cosine*cosine}, {float64(got.YY), along*cosine*cosine + across*sine*sine},
			{float64(got.XY), (along - across) * sine * cosine},
		}
		for i, pair := range pairs {
			little := 1 + (along+across+float64(p.Range))*16/(1<<30)
			if err != nil || math.Abs(pair[0]-pair[1]) > little {
				t.Errorf("Of(%v, %v): %v, %v; number %d should be near %f", s, p, got, err, i, pair[1])
			}
		}
	}
}

// The Time is not looked at: whatever it is, the place is the same, and no error.
func TestPO2TheTimeIsNotLookedAt(t *testing.T) {
	times := []int64{0, 1, -1, api.Day - 1, api.Day, api.Day + 1, -api.Day, 1 << 40, api.MaxTop, api.MaxTop + 1, -api.MaxTop - 1, most, least}
	r := rand.New(rand.NewSource(5))
	for range 200 {
		s, p := randomSensor(r), randomPlot(r)
		p.Time = 0
		want := steppedSeen(s, p)
		for _, p.Time = range times {
			wantSeen(t, s, p, want)
		}
	}
}
