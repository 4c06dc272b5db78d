package polar_test

import (
	"math/rand"
	"testing"

	"radome/api"
	"radome/polar"
)

// answers is what all calls answer.
type answers struct {
	along, across int64
	seen          polar.Seen
	over          bool
	errs          [3]error
}

func ask(s polar.Sensor, p api.Plot) answers {
	var out answers
	out.errs[0] = polar.Check(s)
	out.along, out.across, out.errs[1] = polar.Spread(s, p.Range)
	out.seen, out.over, out.errs[2] = polar.Of(s, p)
	return out
}

// anything is a sensor and a plot that may be, or that may not.
func anything(r *rand.Rand) (polar.Sensor, api.Plot) {
	s, p := randomSensor(r), randomPlot(r)
	wrong := wrongFars[r.Intn(len(wrongFars))]
	switch r.Intn(8) {
	case 0:
		s.Range = wrong
	case 1:
		s.Turn = wrong
	case 2:
		p.Range = wrong
	case 3:
		s.Range, s.Turn, p.Range = int64(r.Uint64()), int64(r.Uint64()), int64(r.Uint64())
	}
	return s, p
}

// P9: what is handed in is as it was after each call, and the same is answered again, whatever was asked for in between.
func TestP9SameAnswersAndNothingChanged(t *testing.T) {
	var first []answers
	for round := range 2 {
		r := rand.New(rand.NewSource(8))
		for i := range 5000 {
			s, p := anything(r)
			keptS, keptP := s, p
			got := ask(s, p)
			if s != keptS || p != keptP {
				t.Fatalf("%v, %v: now %v, %v", keptS, keptP, s, p)
			}
			if round == 0 {
				first = append(first, got)
			} else if got != first[i] {
				t.Fatalf("%v, %v: %v, then %v", s, p, first[i], got)
			}
		}
	}
}

// Two places that are answered are their own.
func TestP9APlaceIsItsOwn(t *testing.T) {
	s, p := polar.Sensor{Range: metre, Turn: radian / 8}, plot(1000*metre, 5)
	one, _, _ := polar.Of(s, p)
	kept := one
	other, _, _ := polar.Of(s, p)
	other.X, other.Y, other.XX, other.YY, other.XY = 1, 2, 3, 4, 5
	if again, _, err := polar.Of(s, p); one != kept || again != kept || err != nil {
		t.Errorf("%v, then %v and %v, %v", kept, one, again, err)
	}
}
