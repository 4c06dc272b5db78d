package imm_test

import (
	"math/rand"
	"slices"
	"testing"

	"radome/imm"
	"radome/model"
	"radome/polar"
	"radome/predict"
)

// handed is all that the calls are given; the chances, the rows and the list of rows, the models and the states are pieces of a room each.
type handed struct {
	numbers []int64
	lists   [][]int64
	models  []model.Model
	states  []predict.State

	c  imm.Conf
	m  imm.Imm
	s  predict.State
	dt int64
	p  polar.Seen
}

// piece is a list as a part of a room, with spare room behind it.
func piece[T any](room *[]T, l []T, spare ...T) []T {
	from := len(*room)
	*room = append(append(*room, l...), spare...)
	return (*room)[from : from+len(l)]
}

// laid is a handed with all its lists as pieces of rooms, which never are moved.
func laid(c imm.Conf, m imm.Imm) handed {
	h := handed{numbers: make([]int64, 0, 200), lists: make([][]int64, 0, 20), models: make([]model.Model, 0, 20), states: make([]predict.State, 0, 20)}
	h.c.Floor = c.Floor
	h.m.Chances = piece(&h.numbers, m.Chances, 5, 6, 7)
	var rows [][]int64
	for _, row := range c.Rows {
		rows = append(rows, piece(&h.numbers, row, 5, 6, 7))
	}
	h.c.Rows = piece(&h.lists, rows, nil, nil)
	h.c.Models = piece(&h.models, c.Models, someModels()[:2]...)
	h.m.States = piece(&h.states, m.States, someState(), predict.State{})
	return h
}

// kept is what is handed in, in other memory.
func (h handed) kept() handed {
	h.numbers, h.models, h.states = slices.Clone(h.numbers), slices.Clone(h.models), slices.Clone(h.states)
	h.lists = slices.Clone(h.lists)
	return h
}

// wantAsItWas asks that nothing is changed, spare room too, and each row still where it was.
func (h handed) wantAsItWas(t *testing.T, was handed) {
	t.Helper()
	if !slices.Equal(h.numbers, was.numbers) || !slices.Equal(h.models, was.models) || !slices.Equal(h.states, was.states) {
		t.Fatalf("what was handed in was changed: %v, now %v", was, h)
	}
	for i, row := range h.lists {
		if len(row) != len(was.lists[i]) || len(row) > 0 && &row[0] != &was.lists[i][0] {
			t.Fatalf("the list of rows was changed: %v, now %v", was, h)
		}
	}
}

// answers is what all calls answer.
type answers struct {
	start, ahead, seen imm.Imm
	one                predict.State
	same               bool
	over               [3]bool
	errs               [5]error
}

// spoiled is what an Imm said, once its lists and their spare room have been filled with others: that they are nobody else's.
func spoiled(m imm.Imm) imm.Imm {
	out := copied(m)
	states, chances := m.States[:cap(m.States)], m.Chances[:cap(m.Chances)]
	for i := range states {
		states[i] = predict.State{X: allOf(77)}
	}
	for i := range chances {
		chances[i] = 77
	}
	return out
}

// ask asks all calls, and asks that what was handed in is as it was after each.
func (h handed) ask(t *testing.T) answers {
	t.Helper()
	was := h.kept()
	var out answers
	out.errs[0] = imm.Check(h.c)
	h.wantAsItWas(t, was)
	start, err := imm.Start(h.c, h.s)
	out.start, out.errs[1] = spoiled(start), err
	h.wantAsItWas(t, was)
	ahead, over, err := imm.Ahead(h.c, h.m, h.dt)
	out.ahead, out.over[0], out.errs[2] = spoiled(ahead), over, err
	h.wantAsItWas(t, was)
	seen, over, err := imm.Seen(h.c, h.m, h.p)
	out.seen, out.over[1], out.errs[3] = spoiled(seen), over, err
	h.wantAsItWas(t, was)
	out.one, out.over[2], out.errs[4] = imm.One(h.m)
	h.wantAsItWas(t, was)
	out.same = imm.Same(h.m, copied(h.m))
	h.wantAsItWas(t, was)
	return out
}

func (a answers) isSame(b answers) bool {
	return isSame(a.start, b.start) && isSame(a.ahead, b.ahead) && isSame(a.seen, b.seen) && a.one == b.one && a.same == b.same && a.over == b.over && a.errs == b.errs
}

// wrong is what may not be.
type wrong struct {
	confs  []imm.Conf
	imms   []imm.Imm
	places []polar.Seen
	states []predict.State
}

// oneOf is any of a list.
func oneOf[T any](r *rand.Rand, l []T) T { return l[r.Intn(len(l))] }

// anything is what may be, or may not.
func anything(r *rand.Rand, bad wrong) handed {
	many := 1 + r.Intn(4)
	c, m := randomConf(r, many), randomImm(r, many)
	s, dt, p := nearState(r), randomTime(r), randomSeen(r, 1+r.Intn(62))
	if r.Intn(2) == 0 { // so that most of them can be seen
		m, p = someImm(many), someSeen()
	}
	switch r.Intn(12) {
	case 0:
		c = oneOf(r, bad.confs)
	case 1:
		m = oneOf(r, bad.imms)
	case 2:
		p = oneOf(r, bad.places)
	case 3:
		s = oneOf(r, bad.states)
	case 4:
		dt = oneOf(r, wrongTimes)
	case 5:
		c.Rows = itself(many)
	case 6:
		m.States[r.Intn(many)], p = oneOf(r, without()), exact()
	}
	h := laid(c, m)
	h.s, h.dt, h.p = s, dt, p
	if l := h.c.Rows; len(l) > 0 && r.Intn(6) == 0 { // they share memory
		l[0] = l[len(l)-1]
		h.m.Chances = l[0]
	}
	return h
}

// allWrong is all that the tests have of it, but for what the rooms have no place for.
func allWrong() wrong {
	confs := slices.DeleteFunc(wrongConfs(3), func(c imm.Conf) bool { return len(c.Models) > 9 })
	return wrong{confs, wrongImms(3), wrongPlaces(), wrongStates()}
}

// P9, and the first of the chapter's rules: what is handed in is as it was after each call, spare room too, no answer shares memory with it, and two answers of the same are the same.
func TestP9SameAnswersAndNothingChanged(t *testing.T) {
	r := rand.New(rand.NewSource(17))
	bad := allWrong()
	for range 3000 {
		h := anything(r, bad)
		first := h.ask(t)
		if second := h.ask(t); !first.isSame(second) {
			t.Fatalf("%v: %v, then %v", h, first, second)
		}
	}
}

// The same is answered again, whatever was asked for in between.
func TestP9NothingIsKept(t *testing.T) {
	bad := allWrong()
	var first []answers
	for round := range 2 {
		r := rand.New(rand.NewSource(18))
		for i := range 1000 {
			h := anything(r, bad)
			got := h.ask(t)
			if round == 0 {
				first = append(first, got)
			} else if !got.isSame(first[i]) {
				t.Fatalf("%v: %v, then %v", h, first[i], got)
			}
		}
	}
}

// An answer is its own: what is done to it, or to what was handed in, is seen in no other. Here the answers have the same chances as what was handed in.
func TestP9AnAnswerIsItsOwn(t *testing.T) {
	for many := 1; many <= 4; many++ {
		c, m := someConf(many), imm.Imm{States: slices.Repeat([]predict.State{someState()}, many), Chances: slices.Clone(started[many-1])}
		c.Rows, c.Floor = itself(many), 0
		wasC, wasM := imm.Conf{Models: slices.Clone(c.Models), Rows: itself(many)}, copied(m)
		calls := map[string]func() imm.Imm{
			"Start": func() imm.Imm { out, _ := imm.Start(c, someState()); return out },
			"Ahead": func() imm.Imm { out, _, _ := imm.Ahead(c, m, unit); return out },
			"Seen":  func() imm.Imm { out, _, _ := imm.Seen(c, m, someSeen()); return out },
		}
		for name, ask := range calls {
			first, second := ask(), ask()
			said := copied(first)
			if len(said.States) != many || !slices.Equal(said.Chances, started[many-1]) {
				t.Fatalf("%s: %v", name, said)
			}
			spoiled(second)
			if !isSame(first, said) || !isSame(ask(), said) {
				t.Errorf("%s: %v, then %v, then %v", name, said, first, ask())
			}
			if !isSame(m, wasM) || !slices.Equal(c.Models, wasC.Models) || !slices.Equal(slices.Concat(c.Rows...), slices.Concat(wasC.Rows...)) {
				t.Errorf("%s: %v and %v were changed", name, c, m)
			}
			spoiled(m)
			clear(c.Models)
			for _, row := range c.Rows {
				clear(row)
			}
			if !isSame(first, said) {
				t.Errorf("%s: %v, now %v", name, said, first)
			}
			copy(m.States, wasM.States)
			copy(m.Chances, wasM.Chances)
			copy(c.Models, wasC.Models)
			for i := range c.Rows {
				copy(c.Rows[i], wasC.Rows[i])
			}
			// One state of an answer is none of its others.
			first.States[0].X, first.States[0].P.A[0] = allOf(9), 9
			if !slices.Equal(first.States[1:], said.States[1:]) {
				t.Errorf("%s: %v", name, first)
			}
		}
	}
}

// Nil and the empty list are the same.
func TestP9NilIsEmpty(t *testing.T) {
	for _, rows := range [][][]int64{nil, {}, make([][]int64, 0, 9), {nil}, {{}}} {
		for _, models := range [][]model.Model{nil, {}, make([]model.Model, 0, 9), someModels()[:1]} {
			c := imm.Conf{Models: models, Rows: rows}
			wantErr(t, call("Check", c), imm.Check(c), 1)
			for _, m := range []imm.Imm{{}, {States: []predict.State{}, Chances: []int64{}}, {States: []predict.State{someState()}}, {Chances: []int64{one}}, {States: []predict.State{someState()}, Chances: []int64{}}} {
				wantNoStart(t, c, someState())
				wantNoAhead(t, c, m, unit)
				wantNoSeen(t, c, m, someSeen(), 1)
				wantNoAhead(t, someConf(1), m, unit)
				wantNoSeen(t, someConf(1), m, someSeen(), 1)
				wantNoOne(t, m)
			}
		}
	}
}
