package mat

import "radome/api"

// byNumber is a matrix of so many rows and columns, each number told by number; whether one was too great.
func byNumber(rows, cols int, number func(i, j int) (int64, bool, error)) (Mat, bool, error) {
	if !sizesMayBe(rows, cols) {
		return Mat{}, false, api.ErrArg
	}
	out := Mat{Rows: rows, Cols: cols}
	great := false
	for i := range rows {
		for j := range cols {
			n, over, err := number(i, j)
			if err != nil {
				return Mat{}, false, err
			}
			out.row(i)[j], great = n, great || over
		}
	}
	return out, great, nil
}

// byPairs is a matrix each of whose numbers is told by the two at its place; whether one was too great.
func byPairs(a, b Mat, number func(p, q int64) (int64, bool)) (Mat, bool, error) {
	if Check(a) != nil || Check(b) != nil || a.Rows != b.Rows || a.Cols != b.Cols {
		return Mat{}, false, api.ErrArg
	}
	return byNumber(a.Rows, a.Cols, func(i, j int) (int64, bool, error) {
		n, over := number(a.row(i)[j], b.row(i)[j])
		return n, over, nil
	})
}

// row is where a row stands in the matrix itself. It asks for a pointer, as a copy's row would be another one.
func (m *Mat) row(i int) []int64 { return m.A[i*m.Cols : (i+1)*m.Cols] }

// copied is the same numbers in memory of their own.
func copied(numbers []int64) []int64 {
	out := make([]int64, len(numbers))
	copy(out, numbers)
	return out
}

// sizesMayBe tells whether a matrix may have so many rows and columns.
func sizesMayBe(rows, cols int) bool {
	return rows >= 1 && rows <= api.MaxSize && cols >= 1 && cols <= api.MaxSize
}

// within tells whether there is a place i among so many, from 0 on.
func within(i, many int) bool { return i >= 0 && i < many }
