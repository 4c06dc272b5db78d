package imm_test

import (
	"math/rand"
	"slices"
	"testing"

	"radome/imm"
	"radome/polar"
	"radome/predict"
)

// wrongImms are such as may not be of a conf of so many models: by their states, by their chances, or by how many there are of one or of both.
func wrongImms(many int) []imm.Imm {
	out := []imm.Imm{{}}
	for place := range many {
		for _, s := range wrongStates() {
			for _, chances := range [][]int64{someImm(many).Chances, alone(place, many), alone((place+1)%many, many)} {
				m := someImm(many)
				m.States[place], m.Chances = s, chances
				out = append(out, m)
			}
		}
		for _, by := range []int64{1, -1, one, -one, 1 << 32, least} {
			m := someImm(many)
			m.Chances[place] += by
			out = append(out, m)
		}
	}
	for _, chances := range wrongChances() {
		out = append(out, imm.Imm{States: someImm(many).States, Chances: chances})
	}
	for states := range 7 {
		for chances := range 7 {
			m := imm.Imm{States: slices.Repeat([]predict.State{someState()}, states)}
			if chances > 0 {
				m.Chances = alone(chances-1, chances)
			}
			if states != many || chances != many {
				out = append(out, m)
			}
		}
	}
	return out
}

func TestIM2AndIM3WrongImms(t *testing.T) {
	r := rand.New(rand.NewSource(13))
	for many := 1; many <= 4; many++ {
		for _, m := range wrongImms(many) {
			wantNoAhead(t, someConf(many), m, unit)
			wantNoSeen(t, someConf(many), m, someSeen(), 1)
			c := randomConf(r, many)
			wantNoAhead(t, c, m, randomTime(r))
			wantNoSeen(t, c, m, someSeen(), 1)
		}
	}
}

// An Imm that may be of one conf may not be of one with more or fewer models.
func TestIM2AndIM3AnImmOfAnotherConf(t *testing.T) {
	for many := 1; many <= 4; many++ {
		for other := 1; other <= 4; other++ {
			_, _, err := imm.Ahead(someConf(many), someImm(other), unit)
			_, _, err2 := imm.Seen(someConf(many), someImm(other), someSeen())
			if many == other {
				if err != nil || err2 != nil {
					t.Errorf("%d: %v, %v", many, err, err2)
				}
				continue
			}
			wantNoAhead(t, someConf(many), someImm(other), unit)
			wantNoSeen(t, someConf(many), someImm(other), someSeen(), 1)
		}
	}
}

// wrongTimes are such as are none.
var wrongTimes = []int64{0, -1, -2, longest + 1, longest + 2, 2 * longest, -unit, -longest, 1 << 32, 1<<32 + 1, 1<<32 + unit, -1 << 32, top, -top, most, least, least + 1}

func TestIM2WrongTimes(t *testing.T) {
	for _, dt := range wrongTimes {
		for many := 1; many <= 4; many++ {
			wantNoAhead(t, someConf(many), someImm(many), dt)
			for _, m := range someModels() {
				c := someConf(many)
				for k := range c.Models {
					c.Models[k] = m
				}
				wantNoAhead(t, c, someImm(many), dt)
			}
		}
	}
}

// wrongPlaces are such as may not be: by a number beyond MaxTop's size, or by one below 0 of how exact they are.
func wrongPlaces() []polar.Seen {
	var out []polar.Seen
	add := func(change func(p *polar.Seen)) {
		p := someSeen()
		change(&p)
		out = append(out, p)
	}
	for _, n := range beyond {
		add(func(p *polar.Seen) { p.X = n })
		add(func(p *polar.Seen) { p.Y = n })
		add(func(p *polar.Seen) { p.XX = n })
		add(func(p *polar.Seen) { p.YY = n })
		add(func(p *polar.Seen) { p.XY = n })
	}
	for _, n := range []int64{-1, -2, -unit, -top} {
		add(func(p *polar.Seen) { p.XX = n })
		add(func(p *polar.Seen) { p.YY = n })
	}
	return out
}

func TestIM3WrongPlaces(t *testing.T) {
	for _, p := range wrongPlaces() {
		for many := 1; many <= 4; many++ {
			wantNoSeen(t, someConf(many), someImm(many), p, 1)
		}
	}
}

// without are states of which layer 13's Of takes none with a place that is as exact as may be: there are no factors.
func without() []predict.State {
	return []predict.State{
		stateOf(vector{}, table{}), stateOf(vector{}, onDiagonal(unit)), stateOf(vector{}, onDiagonal(0, unit, unit, unit, unit, unit)), stateOf(vector{5, 6, 7, 8, 9, 10}, onDiagonal(0, unit, unit, 0, unit, unit)),
		stateOf(vector{}, both(ones(), place{0, 3, unit})), stateOf(vector{}, both(ones(), place{0, 3, -unit})), stateOf(vector{}, both(ones(), place{0, 3, top})),
		stateOf(vector{top, 0, 0, -top}, both(onDiagonal(top, 0, 0, top), place{0, 3, top})),
	}
}

// exact is a place that is as exact as may be.
func exact() polar.Seen { return polar.Seen{X: 10350 * unit, Y: -7250 * unit} }

// A state that layer 13's Of does not take, first, last and in the middle, for sure and with a chance of 0: its error, and nothing beside it, though others were too great.
func TestIM3AStateThatOfDoesNotTake(t *testing.T) {
	for many := 1; many <= 4; many++ {
		for place := range many {
			for _, s := range without() {
				for _, chances := range [][]int64{someImm(many).Chances, alone(place, many), alone((place+1)%many, many)} {
					m := someImm(many)
					m.States[place], m.Chances = s, chances
					wantNoSeen(t, someConf(many), m, exact(), 8)
					for k := range many { // what is too great is not told beside it
						if k != place {
							m.States[k] = stateOf(vector{top, top, top, -top, top, top}, onDiagonal(top, top, top, top, top, top))
						}
					}
					wantNoSeen(t, someConf(many), m, exact(), 8)
					if got, _, err := imm.Ahead(someConf(many), m, unit); err != nil || len(got.States) != many {
						t.Errorf("Ahead: %v, %v", got, err) // it is no wrong state
					}
				}
			}
		}
	}
	// Several of them.
	wantNoSeen(t, someConf(4), imm.Imm{States: without()[:4], Chances: started[3]}, exact(), 8)
	// A place by which all of them have none.
	wantNoSeen(t, someConf(4), someImm(4), polar.Seen{XX: unit, YY: unit, XY: top}, 8)
	wantNoSeen(t, someConf(4), someImm(4), polar.Seen{XX: unit, YY: unit, XY: -top}, 8)
}

// ErrArg comes first, whatever else is wrong: a conf, an Imm or a place that may not be, beside states that Of does not take.
func TestIM3WhichErrorComesFirst(t *testing.T) {
	for many := 1; many <= 4; many++ {
		for place := range many {
			m := someImm(many)
			m.States[place] = without()[place]
			wantNoSeen(t, someConf(many), m, exact(), 8)
			for _, c := range wrongConfs(many) {
				wantNoSeen(t, c, m, exact(), 1)
			}
			for _, p := range wrongPlaces() {
				wantNoSeen(t, someConf(many), m, p, 1)
			}
			for _, l := range wrongChances() {
				wantNoSeen(t, someConf(many), imm.Imm{States: m.States, Chances: l}, exact(), 1)
			}
			for other := range many { // one that may not be, ahead of it or behind it
				if other != place {
					for _, s := range wrongStates() {
						wrong := copied(m)
						wrong.States[other] = s
						wantNoSeen(t, someConf(many), wrong, exact(), 1)
					}
				}
			}
			more := append(slices.Clone(m.States), someState())
			for _, chances := range [][]int64{m.Chances, alone(0, many+1), m.Chances[:place]} {
				wantNoSeen(t, someConf(many), imm.Imm{States: more, Chances: chances}, exact(), 1)
				wantNoSeen(t, someConf(many), imm.Imm{States: append(more[1:], m.States...), Chances: chances}, exact(), 1)
				wantNoSeen(t, someConf(many), imm.Imm{States: m.States[:place], Chances: chances}, exact(), 1)
			}
			fewer := imm.Imm{States: m.States[place : place+1], Chances: alone(0, 1)}
			for other := 2; other <= 4; other++ {
				wantNoSeen(t, someConf(other), fewer, exact(), 1)
				wantNoSeen(t, someConf(other), imm.Imm{States: fewer.States, Chances: started[other-1]}, exact(), 1)
			}
		}
	}
}

// Several wrong at once: the error is the same one, and nothing stands beside it, where something is too great as well.
func TestIM1AndIM2AndIM3SeveralWrong(t *testing.T) {
	confs, imms, places, states := wrongConfs(2), wrongImms(2), wrongPlaces(), wrongStates()
	far := immAt(table{}, []int64{half, half}, allOf(top), allOf(-top))
	for i, c := range confs {
		m := imms[i%len(imms)]
		wantNoStart(t, c, states[i%len(states)])
		wantNoAhead(t, c, m, wrongTimes[i%len(wrongTimes)])
		wantNoSeen(t, c, m, places[i%len(places)], 1)
		wantNoAhead(t, c, far, wrongTimes[i%len(wrongTimes)])
		wantNoSeen(t, c, far, exact(), 1)
	}
	for i, m := range imms {
		wantNoAhead(t, someConf(2), m, wrongTimes[i%len(wrongTimes)])
		wantNoSeen(t, someConf(2), m, places[i%len(places)], 1)
	}
	for _, dt := range wrongTimes {
		wantNoAhead(t, someConf(2), far, dt)
	}
	for _, p := range places {
		wantNoSeen(t, someConf(2), far, p, 1)
	}
	wantNoAhead(t, imm.Conf{}, imm.Imm{}, 0)
	wantNoSeen(t, imm.Conf{}, imm.Imm{}, polar.Seen{XX: -1}, 1)
}
