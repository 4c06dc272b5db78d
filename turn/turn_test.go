package turn_test

import (
	"testing"

	"radome/turn"
)

func TestTU1Of(t *testing.T) {
	for a := range int64(1 << 16) {
		if got := turn.Of(uint16(a)); int64(got) != a*65536 {
			t.Errorf("Of(%d): %d; want %d", a, got, a*65536)
		}
	}
	if got := turn.Of(16384); got != quarter {
		t.Errorf("Of(16384): %d; want a quarter of a turn", got)
	}
}

func TestTU1ShortOfWhatOfAnswers(t *testing.T) {
	for a := range 1 << 16 {
		if got := turn.Short(turn.Of(uint16(a))); int(got) != a {
			t.Errorf("Short(Of(%d)): %d", a, got)
		}
	}
}

func TestTU1ShortEdges(t *testing.T) {
	cases := []struct {
		of   turn.Turn
		want uint16
	}{
		{0, 0}, {1, 0}, {1<<15 - 1, 0}, {1 << 15, 1}, {1<<15 + 1, 1}, {1<<16 - 1, 1}, {1 << 16, 1},
		{3<<15 - 1, 1}, {3 << 15, 2}, {3<<15 + 1, 2},
		{half - 1<<15 - 1, 1<<15 - 1}, {half - 1<<15, 1 << 15}, {half - 1, 1 << 15}, {half, 1 << 15},
		{half + 1<<15 - 1, 1 << 15}, {half + 1<<15, 1<<15 + 1},
		{last - 1<<16, 1<<16 - 1}, {last - 1<<15, 1<<16 - 1}, // 2^32 less 2^15 less 1: just below the last half
		{last - 1<<15 + 1, 0}, {last - 1<<15 + 2, 0}, {last - 1, 0}, {last, 0},
	}
	for _, c := range cases {
		if got := turn.Short(c.of); got != c.want {
			t.Errorf("Short(%d): %d; want %d", c.of, got, c.want)
		}
	}
}

func TestTU1ShortIsTheNearestAHalfUp(t *testing.T) {
	want := func(a turn.Turn) uint16 {
		up := int64(a) / 65536
		if rest := int64(a) % 65536; 2*rest >= 65536 {
			up++
		}
		return uint16(up % 65536)
	}
	check := func(a turn.Turn) {
		if got := turn.Short(a); got != want(a) {
			t.Errorf("Short(%d): %d; want %d", a, got, want(a))
		}
	}
	singles(20000, check)
	for a := range int64(1 << 16) {
		check(modulo(a<<16 + 1<<15 - 1))
		check(modulo(a<<16 + 1<<15))
	}
}

func TestTU1From(t *testing.T) {
	cases := []struct {
		a, b turn.Turn
		want int32
	}{
		{0, 0, 0}, {last, last, 0}, {0, last, 1}, {last, 0, -1}, {1, 0, 1}, {0, 1, -1}, {last, last - 1, 1},
		{half, 0, -1 << 31}, {0, half, -1 << 31}, {half - 1, 0, 1<<31 - 1}, {half + 1, 0, -1<<31 + 1},
		{0, half - 1, -1<<31 + 1}, {0, half + 1, 1<<31 - 1}, {last, half - 1, -1 << 31}, {half - 1, last, -1 << 31},
		{quarter, 3 * quarter, -1 << 31}, {quarter, 0, 1 << 30}, {0, quarter, -1 << 30}, {quarter / 2, last - 4, 1<<29 + 5},
	}
	for _, c := range cases {
		if got := turn.From(c.a, c.b); got != c.want {
			t.Errorf("From(%d, %d): %d; want %d", c.a, c.b, got, c.want)
		}
	}
	pairs(20000, func(a, b turn.Turn) {
		want := int64(a) - int64(b)
		if want >= whole/2 {
			want -= whole
		}
		if want < -whole/2 {
			want += whole
		}
		if got := turn.From(a, b); int64(got) != want {
			t.Errorf("From(%d, %d): %d; want %d", a, b, got, want)
		}
	})
}

func TestTU2Between(t *testing.T) {
	cases := []struct {
		t, from, to turn.Turn
		want        bool
	}{
		{0, 0, 0, true}, {1, 0, 0, false}, {last, 0, 0, false}, {half, 0, 0, false}, // the same: that one alone
		{7, 7, 7, true}, {6, 7, 7, false}, {8, 7, 7, false}, {last, last, last, true}, {0, last, last, false},
		{0, 0, 5, true}, {5, 0, 5, true}, {3, 0, 5, true}, {6, 0, 5, false}, {last, 0, 5, false},
		{last, last, 1, true}, {0, last, 1, true}, {1, last, 1, true}, {2, last, 1, false}, {last - 1, last, 1, false}, {half, last, 1, false}, // over 0
		{0, 5, 4, true}, {4, 5, 4, true}, {5, 5, 4, true}, {half, 5, 4, true}, // all of the turn
		{0, 5, 3, true}, {4, 5, 3, false}, {half, 0, half, true}, {half + 1, 0, half, false}, {quarter, half, 0, false}, {3 * quarter, half, 0, true},
		{0, 0, last, true}, {last, 0, last, true}, {half, 0, last, true},
	}
	for _, c := range cases {
		if got := turn.Between(c.t, c.from, c.to); got != c.want {
			t.Errorf("Between(%d, %d, %d): %v", c.t, c.from, c.to, got)
		}
	}
	triples(20000, func(a, from, to turn.Turn) {
		want := clockwise(from, a) <= clockwise(from, to)
		if got := turn.Between(a, from, to); got != want {
			t.Errorf("Between(%d, %d, %d): %v", a, from, to, got)
		}
	})
}

func TestTU2Middle(t *testing.T) {
	cases := []struct{ from, to, want turn.Turn }{
		{0, 0, 0}, {7, 7, 7}, {last, last, last}, {0, 2, 1}, {0, 1, 0}, {0, 3, 1}, {1, 4, 2}, {1, 2, 1}, // odd ones are cut down
		{last, 0, last}, {last, 1, 0}, {last, 2, 0}, {last - 1, 1, last}, {last - 1, 3, 0}, {last - 2, 3, 0}, // over 0
		{1, 0, half}, {2, 1, half + 1}, {5, 4, half + 4}, {0, last, half - 1}, // nearly all of the turn
		{0, half, quarter}, {half, 0, 3 * quarter}, {quarter, 3 * quarter, half}, {3 * quarter, quarter, 0}, {last, half - 1, quarter - 1},
		{half - 1, half + 1, half}, {half - 1, half + 2, half},
	}
	for _, c := range cases {
		if got := turn.Middle(c.from, c.to); got != c.want {
			t.Errorf("Middle(%d, %d): %d; want %d", c.from, c.to, got, c.want)
		}
	}
	pairs(20000, func(from, to turn.Turn) {
		want := modulo(int64(from) + clockwise(from, to)/2)
		if got := turn.Middle(from, to); got != want {
			t.Errorf("Middle(%d, %d): %d; want %d", from, to, got, want)
		}
	})
}

// As far the other way; half a turn is as far both ways, and told as -2^31, which is its own other way modulo a turn.
func TestTU4AsFarTheOtherWay(t *testing.T) {
	pairs(20000, func(a, b turn.Turn) {
		there, back := turn.From(a, b), turn.From(b, a)
		if modulo(int64(there)+int64(back)) != 0 || there != -back {
			t.Errorf("From(%d, %d): %d, and %d the other way", a, b, there, back)
		}
		if modulo(int64(b)+int64(there)) != a {
			t.Errorf("%d and From(%d, %d) are not %d", b, a, b, a)
		}
		opposite := clockwise(a, b) == whole/2
		if (there == -1<<31) != opposite || (back == -1<<31) != opposite {
			t.Errorf("From(%d, %d): %d, and %d the other way: half a turn?", a, b, there, back)
		}
	})
}

func TestTU4HalfwayLiesBetween(t *testing.T) {
	pairs(20000, func(from, to turn.Turn) {
		middle := turn.Middle(from, to)
		if !turn.Between(middle, from, to) {
			t.Errorf("Middle(%d, %d): %d does not lie between", from, to, middle)
		}
		first, second := clockwise(from, middle), clockwise(middle, to)
		if first+second != clockwise(from, to) || second-first != clockwise(from, to)%2 {
			t.Errorf("Middle(%d, %d): %d is %d from one and %d from the other one", from, to, middle, first, second)
		}
	})
}

// Rules 1 and 4: every call ends, and answers the same at the same arguments, whatever was called in between.
func TestP9SameAnswers(t *testing.T) {
	type answers struct {
		of, short uint32
		from      int32
		between   bool
		middle    turn.Turn
		radians   int64
		err       error
	}
	ask := func(a, b turn.Turn, bits int) answers {
		radians, err := turn.Radians(a, bits)
		return answers{uint32(turn.Of(uint16(a))), uint32(turn.Short(a)), turn.From(a, b), turn.Between(a, b, a+b), turn.Middle(a, b), radians, err}
	}
	var first []answers
	next := 0
	for round := range 2 {
		pairs(2000, func(a, b turn.Turn) {
			got := ask(a, b, int(b%70)-3)
			if round == 0 {
				first = append(first, got)
				return
			}
			if got != first[next] {
				t.Errorf("%d and %d: %v, and %v before", a, b, got, first[next])
			}
			next++
		})
	}
}
