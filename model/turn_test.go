package model_test

import (
	"math"
	"math/big"
	"math/rand"
	"testing"

	"radome/mat"
	"radome/model"
	"radome/trig"
)

// wantTurns asks for a turn to the right, and for the same one to the left: its cosine and sine, and how far a velocity of one comes ahead and aside.
func wantTurns(t *testing.T, rate, dt, cosine, sine, ahead, aside int64) {
	t.Helper()
	right := model.Model{Kind: model.Right, Rate: rate, Noise: 1}
	wantStep(t, right, dt, turned(cosine, sine, ahead, aside))
	left := model.Model{Kind: model.Left, Rate: rate, Noise: greatestNoise}
	wantStep(t, left, dt, turned(cosine, -sine, ahead, -aside))
}

// turned is the matrix of a turn to the right; the sine and what comes aside are the other way of one to the left.
func turned(cosine, sine, ahead, aside int64) mat.Mat {
	const one = 1 << 20
	return ofRows([6][6]int64{
		{one, ahead, 0, 0, aside, 0}, {0, cosine, 0, 0, sine, 0}, {},
		{0, -aside, 0, one, ahead, 0}, {0, -sine, 0, 0, cosine, 0}, {},
	})
}

// By the greatest Rate 4 seconds are a quarter of a turn, 16 a whole one; what comes behind whole ones is the same again.
func TestMO2TurnsOfWholeQuarters(t *testing.T) {
	const one, far = 1 << 20, 2670176 // one by the half of a quarter turn, in radians
	for whole := range int64(4) {
		from := whole * 16 * second
		if whole > 0 {
			wantTurns(t, greatestRate, from, one, 0, 0, 0)
		}
		wantTurns(t, greatestRate, from+4*second, 0, one, far, far)
		wantTurns(t, greatestRate, from+8*second, -one, 0, 0, 2*far)
		wantTurns(t, greatestRate, from+12*second, 0, -one, -far, far)
	}
	wantTurns(t, greatestRate, greatestTime, one, 0, 0, 0) // four whole ones
}

// Next to a quarter nothing is seen till half a last bit is come together: of the sine, or of the cosine.
func TestMO2TurnsNextToQuarters(t *testing.T) {
	const one, far = 1 << 20, 2670176
	wantTurns(t, greatestRate, 1, one, 0, 0, 0)
	wantTurns(t, greatestRate, 2, one, 1, 3, 0)
	wantTurns(t, greatestRate, 4*second-1, 0, one, far, far)
	wantTurns(t, greatestRate, 4*second+1, 0, one, far, far)
	wantTurns(t, greatestRate, 4*second-2, 1, one, far, 2670173)
	wantTurns(t, greatestRate, 4*second+2, -1, one, far, 2670178)
	wantTurns(t, greatestRate, 16*second-2, one, -1, -3, 0)
	wantTurns(t, greatestRate, 16*second+2, one, 1, 3, 0)
	wantTurns(t, greatestRate, greatestTime-2, one, -1, -3, 0)
}

func TestMO2TurnsAtTheBounds(t *testing.T) {
	const one = 1 << 20
	wantTurns(t, leastRate, 1, one, 0, 0, 0)
	wantTurns(t, leastRate, greatestTime, 1043527, 102778, 67021483, 3292450)
	wantTurns(t, leastRate+2, greatestTime, 1043527, 102779, 67022135, 3292450)  // what comes ahead is greatest here, as w is cut most
	wantTurns(t, leastRate+3, greatestTime, 1043527, 102779, 66980480, 3290404)  // w is one more
	wantTurns(t, 24904156, greatestTime, -723070, 759396, 20844051, 48628487)    // what comes aside is greatest
	wantTurns(t, 47997010, greatestTime, -227382, -1023626, -14578405, 18172099) // what comes ahead is least
	wantTurns(t, greatestRate, 17*second, 968758, 401273, 1021833, 203255)
	wantTurns(t, greatestRate, 18886713, 738019, 744875, 1896808, 790827)
	wantTurns(t, 16854993, 30*second, 774535, 706829, 28666174, 11114013)
}

// halves are turns whose sine, or whose cosine, lies on just a half before it is rounded: above and below nought, where the even one is greater and where it is less.
var halves = []struct {
	rate, dt, cosine, sine, ahead, aside int64
	ofCosine                             bool
}{
	{132469143, 47432934, -829325, 641664, 3311107, 9690322, false},
	{37438492, 22379055, 410158, 965030, 17619838, 11656448, false},
	{151651010, 43634448, -1029148, 200912, 905608, 9365308, false},
	{25645940, 11662381, 958603, 424960, 11326966, 2398158, false},
	{223761318, 54856375, -160527, -1036216, -3165518, 3693667, false},
	{194041106, 35549564, -1027871, -207350, -730450, 7314886, false},
	{115076543, 62910268, -818377, -655568, -3894139, 11089886, false},
	{267883634, 10466308, -752743, -729992, -1862740, 4596474, false},
	{21057070, 19489674, 881344, 568105, 18442193, 5428794, true},
	{252071404, 39501138, 254882, 1017127, 2758235, 2152332, true},
	{137693533, 62024711, 833960, -635628, -3155513, 1065440, true},
	{14478561, 11675860, 1019548, 245019, 11567809, 1370467, true},
	{144598210, 42850970, -745298, 737593, 3486853, 8480252, true},
	{117648386, 62494767, -705400, -775837, -4507808, 10191041, true},
	{38017791, 43740069, -714132, 767806, 13805157, 31693501, true},
	{85680556, 26016984, -1048052, 33130, 264314, 16727082, true},
}

func TestMO2TurnsOfAHalfAreEven(t *testing.T) {
	for _, c := range halves {
		exact, cosine := trig.Both(turnOf(c.rate, c.dt))
		even := c.sine
		if c.ofCosine {
			exact, even = cosine, c.cosine
		}
		if !onAHalf(big.NewInt(exact), power(10)) || even%2 != 0 {
			t.Errorf("%v: %d by 1024 is no half, or %d is odd", c, exact, even)
		}
		wantTurns(t, c.rate, c.dt, c.cosine, c.sine, c.ahead, c.aside)
	}
}

// A quotient never lies on a half: what is divided has 20 noughts at its end, and w is below 2^19. So it is asked for on both sides of the nearest halves that there are.
func TestMO2QuotientsNearAHalf(t *testing.T) {
	if w := radiansOf(greatestRate); w >= 1<<19 {
		t.Errorf("w is up to %d", w)
	}
	r := rand.New(rand.NewSource(4))
	sides := map[[2]bool]int{}
	for range 200000 {
		rate, dt := leastRate+r.Int63n(greatestRate-leastRate+1), 1+r.Int63n(greatestTime)
		s, c := sineAndCosine(rate, dt)
		w := radiansOf(rate)
		for _, n := range []int64{s, 1<<20 - c} {
			rest := new(big.Int).Mod(timesOf(n, 1<<20), big.NewInt(w)).Int64()
			if off := 2*rest - w; off >= -8 && off <= 8 {
				m := model.Model{Kind: model.Left, Rate: rate, Noise: 1}
				wantStep(t, m, dt, steppedStep(m, dt))
				sides[[2]bool{n < 0, off < 0}]++
			}
		}
	}
	if len(sides) != 4 {
		t.Errorf("not on all sides: %v", sides)
	}
}

// Rate times dt is cut, not rounded, and whole turns are left out.
func TestMO2TurnsAreCut(t *testing.T) {
	r := rand.New(rand.NewSource(5))
	cut, whole := 0, 0
	for range 400000 {
		rate, dt := leastRate+r.Int63n(greatestRate-leastRate+1), 1+r.Int63n(greatestTime)
		at := turnOf(rate, dt)
		if rate*dt>>20 >= 1<<32 {
			whole++
		}
		// The sine of the next part, told with Frac bits, is another one just now and then.
		here, _ := trig.Both(at)
		next, _ := trig.Both(at + 1)
		if rate*dt%(1<<20) < 1<<19 || rounded(big.NewInt(here), power(10)) == rounded(big.NewInt(next), power(10)) {
			continue
		}
		cut++
		for _, kind := range []int{model.Left, model.Right} {
			m := model.Model{Kind: kind, Rate: rate, Noise: 1}
			wantStep(t, m, dt, steppedStep(m, dt))
		}
	}
	if cut < 100 || whole < 10000 {
		t.Errorf("just %d would be seen, and %d are more than a whole turn", cut, whole)
	}
}

// What floats say of a turn: to the right is clockwise, so that who flies along y comes to x.
func TestMO2TurnsByFloats(t *testing.T) {
	r := rand.New(rand.NewSource(6))
	for range 20000 {
		m := randomModel(r)
		m.Kind, m.Rate = 2+r.Intn(2), leastRate+r.Int63n(greatestRate-leastRate+1)
		dt := randomTime(r)
		rate := float64(m.Rate) / (1 << 32) * 2 * math.Pi
		angle := rate * float64(dt) / (1 << 20)
		s, c := math.Sincos(angle)
		k := float64(2*m.Kind - 5)
		p, q := s/rate, (1-c)/rate
		want := [36]float64{0: 1, 1: p, 4: k * q, 7: c, 10: k * s, 19: -k * q, 21: 1, 22: p, 25: -k * s, 28: c}
		got, over, err := model.Step(m, dt)
		// Half a last bit of the sine and one of w, and what is cut of the turn, come through the quotient.
		little := 4 + 2/rate + math.Abs(p/rate) + q/rate
		for i, n := range got.A {
			if over || err != nil || math.Abs(float64(n)-want[i]*(1<<20)) > little {
				t.Errorf("Step(%v, %d): %v, %v; number %d is %d, should be near %f", m, dt, over, err, i, n, want[i]*(1<<20))
			}
		}
	}
}

// Who flies north with 100 metres in a second, and turns right by 3 degrees in a second, flies east after half a minute; to the left, west.
func TestMO2AQuarterOfAWideTurn(t *testing.T) {
	for _, c := range []struct {
		kind int
		side int64
	}{{model.Right, 1}, {model.Left, -1}} {
		m := model.Model{Kind: c.kind, Rate: 35791394, Noise: 1}
		step, _, err := model.Step(m, 30*second)
		if err != nil {
			t.Fatal(err)
		}
		got, _, err := mat.Apply(step, []int64{0, 0, 7 * second, 0, 100 * second, 7 * second})
		want := []int64{c.side * 1909859 * second / 1000, c.side * 100 * second, 0, 1909859 * second / 1000, 0, 0}
		for i := range want {
			if off := got[i] - want[i]; err != nil || off < -second/20 || off > second/20 {
				t.Errorf("%s: part %d is %d, %v; should be near %d", model.Name(c.kind), i, got[i], err, want[i])
			}
		}
	}
}
