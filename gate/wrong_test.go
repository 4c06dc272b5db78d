package gate_test

import (
	"math/rand"
	"slices"
	"testing"

	"radome/mat"
	"radome/polar"
	"radome/predict"
)

// wrongStates are such as may not be, by each of layer 12's reasons: P may not be, or has other rows and columns than six, is not the same turned, has a number below 0 on its diagonal, or one of P or X is beyond MaxTop's size.
func wrongStates() []predict.State {
	good := states()[0]
	out := []predict.State{{}, {X: good.X}}
	for _, size := range [][2]int{{5, 6}, {6, 5}, {5, 5}, {7, 7}, {0, 6}, {6, 0}, {-6, -6}, {4, 9}, {1<<32 + 6, 6}, {most, most}} {
		s := good
		s.P.Rows, s.P.Cols = size[0], size[1]
		out = append(out, s)
	}
	for n := 1; n <= 5; n++ {
		eye, _ := mat.Eye(n)
		out = append(out, predict.State{X: good.X, P: eye})
	}
	add := func(change func(s *predict.State)) {
		s := good
		change(&s)
		out = append(out, s)
	}
	for i := range 6 {
		for _, n := range beyond() {
			add(func(s *predict.State) { s.X[i] = n })
			add(func(s *predict.State) { s.P.A[7*i] = n })
			add(func(s *predict.State) { s.P.A[i], s.P.A[6*i] = n, n })
		}
		for _, n := range []int64{-1, -unit, -top} {
			add(func(s *predict.State) { s.P.A[7*i] = n })
		}
		for j := range i {
			add(func(s *predict.State) { s.P.A[6*i+j]++ })
			add(func(s *predict.State) { s.P.A[6*j+i]-- })
		}
	}
	return out
}

// wrongPlaces are such as may not be: by a number beyond MaxTop's size at each of the five places, or by XX or YY below 0.
func wrongPlaces() []polar.Seen {
	var out []polar.Seen
	for _, good := range []polar.Seen{spots()[0], {}, {X: top, Y: -top, XX: top, YY: top, XY: -top}} {
		add := func(change func(p *polar.Seen)) {
			p := good
			change(&p)
			out = append(out, p)
		}
		for _, n := range beyond() {
			add(func(p *polar.Seen) { p.X = n })
			add(func(p *polar.Seen) { p.Y = n })
			add(func(p *polar.Seen) { p.XX = n })
			add(func(p *polar.Seen) { p.YY = n })
			add(func(p *polar.Seen) { p.XY = n })
		}
		for _, n := range []int64{-1, -2, -unit, -top} {
			add(func(p *polar.Seen) { p.XX = n })
			add(func(p *polar.Seen) { p.YY = n })
			add(func(p *polar.Seen) { p.XX, p.YY = n, n })
		}
	}
	return out
}

// tooGreat are such as may be, of which a number is too great.
func tooGreat() pair {
	return pair{known(-top, 0, top, 0, top), polar.Seen{X: top, XX: top, YY: top}}
}

func TestGA1WrongStatesAndPlaces(t *testing.T) {
	for _, within := range []int64{1, unit, widest} {
		for _, s := range wrongStates() {
			for _, p := range append(spots(), exact(0, 0), tooGreat().p) {
				wantNoGate(t, s, p, within, 1)
			}
		}
		for _, p := range wrongPlaces() {
			for _, s := range append(states(), sure(0, 0), tooGreat().s) {
				wantNoGate(t, s, p, within, 1)
			}
		}
	}
}

func TestGA1AndGA2AndGA3WrongMosts(t *testing.T) {
	for _, within := range wrongMosts() {
		for _, s := range append(states(), tooGreat().s) {
			for _, p := range append(spots(), tooGreat().p) {
				wantNoGate(t, s, p, within, 1)
				wantNone(t, []predict.State{s}, []polar.Seen{p}, within, 1)
			}
		}
		wantNone(t, states(), spots(), within, 1)
		wantNone(t, nil, nil, within, 1)
		wantNone(t, states(), nil, within, 1)
		wantNone(t, nil, spots(), within, 1)
	}
	for _, within := range []int64{1, widest} { // these are just none
		wantGate(t, sure(0, 0), spot(0, 0), within, 0, true, false)
		wantPairs(t, []predict.State{sure(0, 0)}, []polar.Seen{spot(0, 0)}, within, false, []int{0})
		wantNearest(t, []predict.State{sure(0, 0)}, []polar.Seen{spot(0, 0)}, within, 0)
	}
}

// A most that may not be comes first, beside ErrNone's cause too; then what may not be; then ErrNone.
func TestGA1WhichErrorComesFirst(t *testing.T) {
	for i, c := range without() {
		wantNoGate(t, c.s, c.p, wrongMosts()[i%len(wrongMosts())], 1)
		wantNoGate(t, c.s, c.p, 0, 1)
		wantNoGate(t, c.s, wrongPlaces()[i%len(wrongPlaces())], unit, 1)
		wantNoGate(t, wrongStates()[i%len(wrongStates())], c.p, unit, 1)
		wantNoGate(t, c.s, c.p, unit, 8)
	}
	for i, s := range wrongStates() {
		wantNoGate(t, s, wrongPlaces()[i%len(wrongPlaces())], unit, 1)
		wantNoGate(t, s, wrongPlaces()[i%len(wrongPlaces())], wrongMosts()[i%len(wrongMosts())], 1)
		wantNoGate(t, s, exact(0, 0), unit, 1)
	}
}

// ends are the first, the last and one in the middle of so many.
func ends(many int) []int { return []int{0, many / 2, many - 1} }

// One that may not be: first, last and in the middle, whether there are others of the other kind, or none.
func TestGA2AndGA3AWrongStateOrPlace(t *testing.T) {
	for _, many := range []int{1, 2, 3, 64} {
		l, p := slices.Repeat(states(), 16)[:many], slices.Repeat(spots(), 11)[:many]
		for _, at := range ends(many) {
			for _, s := range wrongStates() {
				some := slices.Clone(l)
				some[at] = s
				wantNone(t, some, p, unit, 1)
				wantNone(t, some, p[:1], widest, 1)
				wantNone(t, some, nil, 1, 1)
				wantNone(t, some, []polar.Seen{exact(0, 0), tooGreat().p}, unit, 1)
			}
			for _, seen := range wrongPlaces() {
				some := slices.Clone(p)
				some[at] = seen
				wantNone(t, l, some, unit, 1)
				wantNone(t, l[:1], some, widest, 1)
				wantNone(t, nil, some, 1, 1)
				wantNone(t, []predict.State{sure(0, 0), tooGreat().s}, some, unit, 1)
			}
		}
	}
}

// A state and a place that may not be at once; all of them; and beside pairs of which nothing can be told.
func TestGA2AndGA3SeveralWrong(t *testing.T) {
	l, p := wrongStates(), wrongPlaces()
	for i, s := range l {
		seen := p[i%len(p)]
		wantNone(t, []predict.State{s}, []polar.Seen{seen}, unit, 1)
		wantNone(t, append(states(), s), append([]polar.Seen{seen}, spots()...), unit, 1)
		wantNone(t, []predict.State{sure(0, 0), s}, []polar.Seen{exact(0, 0)}, unit, 1)
		wantNone(t, []predict.State{sure(0, 0)}, []polar.Seen{exact(0, 0), seen}, unit, 1)
		wantNone(t, []predict.State{s}, []polar.Seen{seen}, wrongMosts()[i%len(wrongMosts())], 1)
	}
	wantNone(t, l[:64], p[:64], widest, 1)
	wantNone(t, l[:64], nil, widest, 1)
	wantNone(t, nil, p[:64], widest, 1)
}

// More than 64 of one, or of both: ErrLong, whether they may be or not; but a most that may not be comes first.
func TestGA2AndGA3TooMany(t *testing.T) {
	for _, many := range []int{65, 66, 128, 1000} {
		l, p := slices.Repeat([]predict.State{states()[0]}, many), slices.Repeat([]polar.Seen{spots()[0]}, many)
		for _, within := range mosts() {
			wantNone(t, l, p, within, 2)
			wantNone(t, l, nil, within, 2)
			wantNone(t, nil, p, within, 2)
			wantNone(t, l, p[:64], within, 2)
			wantNone(t, l[:64], p, within, 2)
			wantNone(t, l[:1], p, within, 2)
			wantNone(t, l, p[:1], within, 2)
		}
		for i, s := range wrongStates() {
			seen := wrongPlaces()[i%len(wrongPlaces())]
			some, places := slices.Clone(l), slices.Clone(p)
			at := []int{0, many / 2, 63, 64, many - 1}[i%5]
			some[at], places[at] = s, seen
			wantNone(t, some, nil, unit, 2)
			wantNone(t, some, p[:3], unit, 2)
			wantNone(t, l, places[at:at+1], unit, 2) // wrong is the one, too many are the others
			wantNone(t, some[at:at+1], p, unit, 2)
			wantNone(t, some, places, unit, 2)
			wantNone(t, some, places, wrongMosts()[i%len(wrongMosts())], 1)
		}
		for _, within := range wrongMosts() {
			wantNone(t, l, p, within, 1)
			wantNone(t, l, nil, within, 1)
			wantNone(t, nil, p, within, 1)
			wantNone(t, l[:64], p, within, 1)
			wantNone(t, l, p[:64], within, 1)
		}
	}
	// Spare room is none of them.
	l, p := slices.Repeat([]predict.State{sure(0, 0)}, 65)[:64], slices.Repeat([]polar.Seen{spot(0, 0)}, 65)[:64]
	wantNearest(t, l, p, 1, make([]int, 64)...)
}

// The same by chance: what may be, with one number made wrong.
func TestGA1AndGA2AndGA3OfOneWrongNumber(t *testing.T) {
	r := rand.New(rand.NewSource(8))
	for range 1500 {
		l, p := randomAll(r, 1+r.Intn(4), 1+r.Intn(4))
		within := randomMost(r)
		i, k := r.Intn(len(l)), r.Intn(len(p))
		s, seen := l[i], p[k]
		l[i] = oneOf(r, wrongStates())
		wantNoGate(t, l[i], seen, within, 1)
		wantNone(t, l, p, within, 1)
		l[i], p[k] = s, oneOf(r, wrongPlaces())
		wantNoGate(t, s, p[k], within, 1)
		wantNone(t, l, p, within, 1)
		p[k] = seen
		wantNoGate(t, s, seen, oneOf(r, wrongMosts()), 1)
		wantNone(t, l, p, oneOf(r, wrongMosts()), 1)
		checkAll(t, l, p, within)
	}
}
