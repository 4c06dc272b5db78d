package predict_test

import (
	"testing"

	"radome/mat"
	"radome/model"
	"radome/predict"
)

// wantNext asks for just these numbers, of the program and of the tests' reckoner both; nothing of them is too great.
func wantNext(t *testing.T, what string, x vector, p, step, noise table, wantX vector, wantP table) {
	t.Helper()
	got, over, err := predict.Next(stateOf(x, p), matOf(step), matOf(noise))
	wantState(t, what, got, over, err, stateOf(wantX, wantP), false)
	checkNext(t, x, p, step, noise)
}

// The document's example: at 0, with 10 m a second, after a second at 10 m.
func TestPD2TheExample(t *testing.T) {
	step, over, err := model.Step(model.Model{Kind: model.Still, Noise: unit}, unit)
	if over || err != nil {
		t.Fatal(over, err)
	}
	for _, c := range []struct{ x, y, vx, vy int64 }{{0, 0, 10 * unit, 0}, {0, 0, 0, 10 * unit}, {0, 0, -10 * unit, 10 * unit}, {unit, -unit, 10 * unit, -10 * unit}} {
		s, err := predict.Blank(c.x, c.y, c.vx, c.vy, unit, unit, unit)
		if err != nil {
			t.Fatal(err)
		}
		got, over, err := predict.Next(s, step, mat.Mat{Rows: 6, Cols: 6})
		if want := (vector{c.x + c.vx, c.vx, 0, c.y + c.vy, c.vy, 0}); got.X != want || over || err != nil {
			t.Errorf("%v: %v, %v, %v; want %v", c, got.X, over, err, want)
		}
	}
}

// What a second and two make of states of which each number can be told by hand.
func TestPD2ByHand(t *testing.T) {
	x := vector{unit, 10 * unit, 4 * unit, -unit, -20 * unit, 6 * unit}
	p := onDiagonal(100*unit, 4*unit, unit, 100*unit, 4*unit, unit)
	step, noise := modelOf(t, model.Model{Kind: model.Still, Noise: unit}, unit)
	wantNext(t, "still, a second", x, p, step, noise, vector{11 * unit, 10 * unit, 0, -21 * unit, -20 * unit, 0}, table{
		{104*unit + unit/4 + 16, 4*unit + unit/2, 0},
		{4*unit + unit/2, 5*unit + 16, 0},
		{0, 0, 16},
		{0, 0, 0, 104*unit + unit/4 + 16, 4*unit + unit/2, 0},
		{0, 0, 0, 4*unit + unit/2, 5*unit + 16, 0},
		{0, 0, 0, 0, 0, 16},
	})
	step, noise = modelOf(t, model.Model{Kind: model.Pushed, Noise: 3 * unit}, 2*unit)
	wantNext(t, "pushed, two seconds", x, p, step, noise, vector{29 * unit, 18 * unit, 4 * unit, -29 * unit, -8 * unit, 6 * unit}, table{
		{132*unit + 16, 24 * unit, 8 * unit},
		{24 * unit, 20*unit + 16, 8 * unit},
		{8 * unit, 8 * unit, 4*unit + 16},
		{0, 0, 0, 132*unit + 16, 24 * unit, 8 * unit},
		{0, 0, 0, 24 * unit, 20*unit + 16, 8 * unit},
		{0, 0, 0, 8 * unit, 8 * unit, 4*unit + 16},
	})
	step, _ = modelOf(t, model.Model{Kind: model.Right, Rate: 1 << 28, Noise: unit}, 4*unit)
	got, _, _ := predict.Next(stateOf(vector{0, 0, 0, 0, 100 * unit, 0}, p), matOf(step), matOf(table{}))
	if want := (vector{267017600, 100 * unit, 0, 267017600, 0, 0}); got.X != want {
		t.Errorf("a quarter to the right: %v; want %v", got.X, want)
	}
}

// The numbers of a whole state by another reckoner, which knows layer 11's chapter, not its program.
func TestPD2ByAnotherReckoner(t *testing.T) {
	x := vector{1234567891, -210123456, 1048577, -9876543219, 150987654, -524289}
	p := both(onDiagonal(90*unit+7, 30*unit+1, 2*unit, 70*unit+3, 25*unit-1, 3*unit+5),
		place{0, 1, 11*unit + 3}, place{0, 2, 5}, place{0, 3, -20*unit - 1}, place{0, 4, unit + 9}, place{0, 5, 2},
		place{1, 2, -3}, place{1, 3, 4*unit + 5}, place{1, 4, 1 - 6*unit}, place{1, 5, 7},
		place{2, 3, 8}, place{2, 4, 9}, place{2, 5, -1}, place{3, 4, 5 - 9*unit}, place{3, 5, 11}, place{4, 5, 13})
	for _, c := range []struct {
		model model.Model
		dt    int64
		x     vector
		p     table
	}{
		{model.Model{Kind: model.Right, Rate: 1 << 28, Noise: 3 * unit / 2}, 5 * unit / 2, vector{960546752, 8803220, 0, -9319051139, 258595554, 0}, table{
			{305397450, 66207758, 0, -66314578, -49386054, 0},
			{66207758, 31850534, 0, 19374134, -14264, 0},
			{0, 0, 16, 0, 0, 0},
			{-66314578, 19374134, 0, 227266341, 79027152, 0},
			{-49386054, -14264, 0, 79027152, 45481995, 0},
			{0, 0, 0, 0, 0, 16},
		}},
		{model.Model{Kind: model.Left, Rate: 1 << 28, Noise: 3 * unit / 2}, 5 * unit / 2, vector{618792213, -242280050, 0, -9794657210, -90826951, 0}, table{
			{360953776, 94527646, 0, 6279958, 47590156, 0},
			{94527646, 43475634, 0, -17674689, 4829529, 0},
			{0, 0, 16, 0, 0, 0},
			{6279958, -17674689, 0, 185950456, 55938411, 0},
			{47590156, 4829529, 0, 55938411, 33856894, 0},
			{0, 0, 0, 0, 0, 16},
		}},
		{model.Model{Kind: model.Pushed, Noise: 5*unit + 3}, 449389, vector{1144611423, -209674067, 1048577, -9811882476, 150762959, -524289}, table{
			{110098181, 25304907, 674090, -19880138, -1647746, 5},
			{25304907, 32805461, 3145721, 1497981, -6291448, 7},
			{674090, 3145721, 7340051, 12, 9, -1},
			{-19880138, 1497981, 12, 70196970, 2127721, 770401},
			{-1647746, -6291448, 9, 2127721, 27755188, 3595128},
			{5, 7, -1, 770401, 3595128, 8388632},
		}},
		{model.Model{Kind: model.Still, Noise: 5*unit + 3}, 449389, vector{1144515124, -210123456, 0, -9811834327, 150987654, 0}, table{
			{110080493, 25222364, 0, -19880140, -1647749, 0},
			{25222364, 32420273, 0, 1497975, -6291455, 0},
			{0, 0, 16, 0, 0, 0},
			{-19880140, 1497975, 0, 70170436, 2003901, 0},
			{-1647749, -6291455, 0, 2003901, 27177391, 0},
			{0, 0, 0, 0, 0, 16},
		}},
	} {
		step, noise := modelOf(t, c.model, c.dt)
		wantNext(t, model.Name(c.model.Kind), x, p, step, noise, c.x, c.p)
	}
}

// The nearest to n halves, of two such the even one.
var halves = []struct{ n, want int64 }{
	{0, 0}, {1, 0}, {2, 1}, {3, 2}, {4, 2}, {5, 2}, {6, 3}, {7, 4}, {9, 4}, {11, 6}, {-1, 0}, {-2, -1}, {-3, -2}, {-5, -2}, {-7, -4}, {-9, -4},
	{1<<40 + 1, 1 << 39}, {1<<40 + 3, 1<<39 + 2}, {-1<<40 - 1, -1 << 39}, {-1<<40 - 3, -1<<39 - 2},
}

func TestPD2HalvesOfX(t *testing.T) {
	for _, c := range halves {
		for i := range 6 {
			for j := range 6 {
				var x, want vector
				x[j], want[i] = c.n, c.want
				wantNext(t, call("half of a part", i, j, c.n), x, table{}, with(table{}, place{i, j, unit / 2}), table{}, want, table{})
			}
		}
		// A sum is rounded once: two halves of it are a whole.
		wantNext(t, call("two halves", c.n), vector{c.n, c.n}, table{}, with(table{}, place{4, 0, unit / 2}, place{4, 1, unit / 2}), table{}, vector{4: c.n}, table{})
	}
}

func TestPD2HalvesOfProducts(t *testing.T) {
	for _, c := range halves {
		// The numbers at (0, 1) are halved by the first product, those at (1, 0) by the second; each ahead of the other factor.
		p := both(onDiagonal(0, 0, 0, 0, 0, 0), place{0, 1, c.n})
		step := with(ones(), place{0, 0, unit / 2})
		wantNext(t, call("half", c.n), vector{}, p, step, table{}, vector{}, both(table{}, place{0, 1, c.want}))
		step = with(step, place{1, 1, 8 * unit})
		wantNext(t, call("half, times eight", c.n), vector{}, p, step, table{}, vector{}, both(table{}, place{0, 1, 4*c.want + 2*c.n}))
		if c.n < 0 {
			continue
		}
		for i := range 6 {
			// Halved twice: just a half is seen by the second product alone.
			p := with(table{}, place{i, i, 2 * c.n})
			step := with(ones(), place{i, i, -unit / 2})
			wantNext(t, call("a quarter", i, c.n), vector{}, p, step, table{}, vector{}, with(table{}, place{i, i, c.want}))
		}
	}
	// One and a half is two; one and a half times two is three, though the square of one and a half is two and a quarter.
	wantNext(t, "rounded twice", vector{}, onDiagonal(1, 1, 1, 1, 1, 1), onDiagonal(3*unit/2, -3*unit/2, 3*unit/2, -3*unit/2, 3*unit/2, 3*unit/2), table{}, vector{}, onDiagonal(3, 3, 3, 3, 3, 3))
}

func TestPD2HalvesOfTheMiddle(t *testing.T) {
	for _, c := range halves {
		for i := range 6 {
			for j := range 6 {
				if i == j {
					continue
				}
				wantNext(t, call("middle", i, j, c.n), vector{}, table{}, ones(), with(table{}, place{i, j, c.n}), vector{}, both(table{}, place{i, j, c.want}))
				wantNext(t, call("middle", i, j, c.n), vector{}, both(table{}, place{i, j, 6}), ones(), with(table{}, place{i, j, c.n - 9}, place{j, i, -3}), vector{}, both(table{}, place{i, j, c.want}))
			}
		}
	}
}

// A number below 0 on the diagonal is 0; what is beside it stays.
func TestPD2ADiagonalBelowNought(t *testing.T) {
	hollowed := both(table{}, place{0, 1, -5}, place{3, 4, -7})
	step := with(ones(), place{0, 1, unit}, place{3, 4, unit})
	wantNext(t, "a sum below 0", vector{}, hollowed, step, table{}, vector{}, both(table{}, place{0, 1, -5}, place{3, 4, -7}))
	wantNext(t, "a sum above 0", vector{}, both(table{}, place{0, 1, 5}), step, table{}, vector{}, both(table{}, place{0, 1, 5}, place{0, 0, 10}))
	p := both(filled(-3), place{0, 0, 10}, place{1, 1, 20}, place{2, 2, 30}, place{3, 3, 40}, place{4, 4, 50}, place{5, 5, 60})
	for i := range 6 {
		for _, c := range []struct{ noise, more int64 }{{0, 10}, {-9, 1}, {-10, 0}, {-11, 0}, {-12, 0}, {-unit, 0}, {-top, 0}} {
			at := int64(10 * i)
			wantNext(t, call("noise", i, c.noise-at), vector{}, p, ones(), with(table{}, place{i, i, max(c.noise-at, -top)}), vector{}, with(p, place{i, i, c.more}))
		}
	}
	all := filled(-1)
	wantNext(t, "noise alone", vector{1, -2, 3, -4, 5, -6}, table{}, ones(), all, vector{1, -2, 3, -4, 5, -6}, hollow(all))
}
