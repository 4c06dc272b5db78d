package mat_test

import (
	"math"
	"math/rand"
	"slices"
	"testing"

	"radome/mat"
)

// sizes are all rows and columns that a matrix may have.
func sizes() [][2]int {
	var out [][2]int
	for rows := 1; rows <= 6; rows++ {
		for cols := 1; cols <= 6; cols++ {
			out = append(out, [2]int{rows, cols})
		}
	}
	return out
}

// counted is a table of so many rows and columns in which no number stands twice.
func counted(rows, cols int) table {
	out := filled(0, rows, cols)
	for i := range out {
		for j := range out[i] {
			out[i][j] = int64(10*(i+1) + j + 1)
		}
	}
	return out
}

// wantPlaces asks all places of a matrix by At and by Row.
func wantPlaces(t testing.TB, m mat.Mat, want table) {
	t.Helper()
	for i, row := range want {
		got, err := m.Row(i)
		wantNumbers(t, call("Row", m, i), got, false, err, row, false)
		for j, n := range row {
			if got, err := m.At(i, j); got != n || err != nil {
				t.Errorf("At(%d, %d) of %v: %d, %v; want %d", i, j, m, got, err, n)
			}
		}
	}
}

func TestMA1Of(t *testing.T) {
	want := mat.Mat{Rows: 2, Cols: 3, A: [36]int64{1, -2, 3, top, least, most}}
	got, err := mat.Of(table{{1, -2, 3}, {top, least, most}})
	if got != want || err != nil {
		t.Errorf("Of: %v, %v; want %v", got, err, want)
	}
	for _, size := range sizes() {
		for _, l := range []table{counted(size[0], size[1]), filled(0, size[0], size[1]), filled(top, size[0], size[1]), filled(-top, size[0], size[1]), filled(most, size[0], size[1]), filled(least, size[0], size[1])} {
			got, err := mat.Of(l)
			wantIs(t, call("Of", l), got, false, err, l, false)
			if err := mat.Check(got); err != nil {
				t.Errorf("Check of Of(%v): %v", l, err)
			}
			wantPlaces(t, got, l)
		}
	}
}

// Spare room behind a row is not of it.
func TestMA1OfRowsWithSpareRoom(t *testing.T) {
	room := []int64{1, 2, 3, 4, 5, 6, 7, 8, 9}
	got, err := mat.Of(table{room[:2], room[3:5], room[:2]})
	wantIs(t, "Of rows with spare room", got, false, err, table{{1, 2}, {4, 5}, {1, 2}}, false)
}

func TestMA1WrongRows(t *testing.T) {
	six := []int64{1, 2, 3, 4, 5, 6}
	seven := []int64{1, 2, 3, 4, 5, 6, 7}
	for _, l := range []table{
		nil, {}, make(table, 0, 9),
		filled(1, 7, 1), filled(1, 7, 6), filled(1, 7, 7), filled(1, 8, 2), filled(0, 7, 5), make(table, 7), make(table, 36), make(table, 1000), filled(1, 36, 1), // too many rows
		{nil}, {{}}, {nil, nil}, {{}, {}, {}, {}, {}, {}}, {make([]int64, 0, 6)}, // rows of none
		{seven}, {seven, seven}, filled(1, 6, 7), filled(0, 1, 7), filled(1, 1, 36), filled(0, 1, 1000), filled(0, 5, 7), // rows of too many
		{{1}, {1, 2}}, {{1, 2}, {1}}, {{1, 2}, nil}, {nil, {1, 2}}, {six, six, six, six, six, six[:5]}, {six[:5], six, six, six, six, six}, {six, six, six, six, six, seven}, {seven, six, six, six, six, six}, {six, seven}, {{1, 2}, {1, 2, 3}, {1}}, {{1}, {1}, {}}, {{0, 0}, {0}}, // rows of other lengths
	} {
		got, err := mat.Of(l)
		wantWrong(t, call("Of", l), got, false, err)
	}
}

func TestMA1Eye(t *testing.T) {
	for n := 1; n <= 6; n++ {
		want := filled(0, n, n)
		for i := range want {
			want[i][i] = 1048576
		}
		got, err := mat.Eye(n)
		wantIs(t, call("Eye", n), got, false, err, want, false)
		wantPlaces(t, got, want)
	}
	for _, n := range []int{0, -1, 7, -6, 8, 36, 1 << 32, math.MinInt, math.MaxInt} {
		got, err := mat.Eye(n)
		wantWrong(t, call("Eye", n), got, false, err)
	}
}

func TestMA1WrongPlaces(t *testing.T) {
	for _, size := range sizes() {
		rows, cols := size[0], size[1]
		m := matOf(filled(5, rows, cols))
		for _, i := range []int{-1, rows, rows + 1, -rows, 36, 1 << 32, math.MinInt, math.MaxInt} {
			row, err := m.Row(i)
			wantNone(t, call("Row", m, i), row, false, err)
			for j := range cols {
				n, err := m.At(i, j)
				wantErr(t, call("At", m, i, j), err)
				if n != 0 {
					t.Errorf("At(%d, %d) of %v: %d beside an error", i, j, m, n)
				}
			}
		}
		for _, j := range []int{-1, cols, cols + 1, -cols, 36, 1 << 32, math.MinInt, math.MaxInt} {
			for _, i := range []int{0, rows - 1, -1, rows, math.MinInt, math.MaxInt} {
				n, err := m.At(i, j)
				wantErr(t, call("At", m, i, j), err)
				if n != 0 {
					t.Errorf("At(%d, %d) of %v: %d beside an error", i, j, m, n)
				}
			}
		}
	}
}

func TestMA1Turn(t *testing.T) {
	got, err := mat.Turn(matOf(table{{1, 2, 3}, {4, 5, 6}}))
	wantIs(t, "Turn", got, false, err, table{{1, 4}, {2, 5}, {3, 6}}, false)
	r := rand.New(rand.NewSource(1))
	for _, size := range sizes() {
		for _, l := range []table{counted(size[0], size[1]), filled(most, size[0], size[1]), filled(least, size[0], size[1]), filled(0, size[0], size[1]), randomRows(r, size[0], size[1])} {
			got, err := mat.Turn(matOf(l))
			wantIs(t, call("Turn", l), got, false, err, turned(l), false)
		}
	}
}

// MA4: turned twice a matrix is itself.
func TestMA4TurnedTwice(t *testing.T) {
	r := rand.New(rand.NewSource(2))
	for _, size := range slices.Repeat(sizes(), 30) {
		m := matOf(randomRows(r, size[0], size[1]))
		once, err := mat.Turn(m)
		if err != nil {
			t.Fatal(err)
		}
		if twice, err := mat.Turn(once); twice != m || err != nil {
			t.Errorf("turned twice: %v, %v; want %v", twice, err, m)
		}
	}
}

func TestMA1Check(t *testing.T) {
	for _, size := range sizes() {
		for _, n := range []int64{0, 1, top, -top, most, least} {
			m := matOf(filled(n, size[0], size[1]))
			if err := mat.Check(m); err != nil {
				t.Errorf("Check(%v): %v", m, err)
			}
		}
	}
	for _, m := range wrongMats() {
		wantErr(t, call("Check", m), mat.Check(m))
	}
}
