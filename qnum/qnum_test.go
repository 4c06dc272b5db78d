package qnum_test

import (
	"math/big"
	"math/rand"
	"testing"

	"radome/api"
	"radome/qnum"
)

// The bound stands in package api; the tests below write it out.
func TestQN1TheBoundIsMaxTop(t *testing.T) {
	if api.MaxTop != top || top != 4611686018427387903 {
		t.Errorf("MaxTop: %d", int64(api.MaxTop))
	}
}

func TestQN1Clamp(t *testing.T) {
	for _, c := range []struct {
		a, want int64
		over    bool
	}{
		{0, 0, false}, {1, 1, false}, {-1, -1, false}, {top - 1, top - 1, false}, {top, top, false}, {top + 1, top, true}, {top + 2, top, true}, {most, top, true},
		{1 - top, 1 - top, false}, {-top, -top, false}, {-top - 1, -top, true}, {-top - 2, -top, true}, {least + 1, -top, true}, {least, -top, true},
	} {
		n, over := qnum.Clamp(c.a)
		wantIs(t, call("Clamp", c.a), n, over, nil, c.want, c.over)
	}
	singles(5000, func(a int64) {
		n, over := qnum.Clamp(a)
		wantNear(t, call("Clamp", a), n, over, nil, whole(a))
	})
}

func TestQN1Add(t *testing.T) {
	for _, c := range []struct {
		a, b, want int64
		over       bool
	}{
		{1, 2, 3, false}, {-1, 2, 1, false}, {-1, -2, -3, false}, {0, 0, 0, false},
		{top, 0, top, false}, {top - 1, 1, top, false}, {top, 1, top, true}, {top, -1, top - 1, false}, {top, top, top, true},
		{-top, 0, -top, false}, {1 - top, -1, -top, false}, {-top, -1, -top, true}, {-top, -top, -top, true}, {top, -top, 0, false},
		{most, most, top, true}, {least, least, -top, true}, {most, least, -1, false}, {least, most, -1, false}, {most, 0, top, true}, {0, least, -top, true},
		{most, -top - 1, top, false}, {most, -top, top, true}, {least, top + 1, -top, true}, {least, top + 2, -top, false},
	} {
		n, over := qnum.Add(c.a, c.b)
		wantIs(t, call("Add", c.a, c.b), n, over, nil, c.want, c.over)
	}
	pairs(5000, func(a, b int64) {
		n, over := qnum.Add(a, b)
		wantNear(t, call("Add", a, b), n, over, nil, new(big.Rat).Add(whole(a), whole(b)))
	})
}

func TestQN1Sub(t *testing.T) {
	for _, c := range []struct {
		a, b, want int64
		over       bool
	}{
		{1, 2, -1, false}, {-1, 2, -3, false}, {2, -1, 3, false}, {0, 0, 0, false},
		{top, 0, top, false}, {top, 1, top - 1, false}, {top, -1, top, true}, {top, top, 0, false}, {top, -top, top, true},
		{-top, 0, -top, false}, {-top, 1, -top, true}, {-top, -1, 1 - top, false}, {-top, top, -top, true}, {0, top, -top, false}, {0, -top, top, false}, {0, top + 1, -top, true}, {0, -top - 1, top, true},
		{most, most, 0, false}, {least, least, 0, false}, {most, least, top, true}, {least, most, -top, true}, {0, least, top, true}, {-1, least, top, true}, {-top - 2, least, top, false}, {-top - 1, least, top, true},
	} {
		n, over := qnum.Sub(c.a, c.b)
		wantIs(t, call("Sub", c.a, c.b), n, over, nil, c.want, c.over)
	}
	pairs(5000, func(a, b int64) {
		n, over := qnum.Sub(a, b)
		wantNear(t, call("Sub", a, b), n, over, nil, new(big.Rat).Sub(whole(a), whole(b)))
	})
}

func checkMul(t *testing.T, a, b int64, bits int) {
	t.Helper()
	n, over, err := qnum.Mul(a, b, bits)
	wantNear(t, call("Mul", a, b, bits), n, over, err, exactDot([]int64{a}, []int64{b}, bits))
}

func TestQN2Mul(t *testing.T) {
	for _, c := range []struct {
		a, b int64
		bits int
		want int64
		over bool
	}{
		{3, 1, 1, 2, false}, {1, 1, 1, 0, false}, {5, 1, 1, 2, false}, {7, 1, 1, 4, false}, {-1, 1, 1, 0, false}, {-3, 1, 1, -2, false}, {5, -1, 1, -2, false}, {-7, 1, 1, -4, false},
		{3, 3, 0, 9, false}, {3, -3, 0, -9, false}, {0, most, 0, 0, false}, {least, 0, 62, 0, false}, {1 << 20, 3 << 20, 20, 3 << 20, false},
		{top, 1, 0, top, false}, {-top, 1, 0, -top, false}, {top + 1, 1, 0, top, true}, {top + 1, -1, 0, -top, true}, {1 << 31, 1 << 31, 0, top, true}, {1 << 31, -1 << 31, 0, -top, true},
		{most, 1, 1, top, true}, {most - 1, 1, 1, top, false}, {most - 1, -1, 1, -top, false}, {least, 1, 1, -top, true}, {least, -1, 1, top, true}, {least + 2, 1, 1, -top, false},
		{most, most, 62, top, true}, {least, least, 62, top, true}, {least, most, 62, -top, true}, {least, least, 0, top, true}, {least, most, 0, -top, true},
		{top, top + 1, 62, top, false}, {1 << 61, 1, 62, 0, false}, {1<<61 + 1, 1, 62, 1, false}, {3 << 61, 1, 62, 2, false}, {3<<61 - 1, 1, 62, 1, false}, {-1 << 61, 1, 62, 0, false}, {-1<<61 - 1, 1, 62, -1, false}, {-3 << 61, 1, 62, -2, false}, {1 - 3<<61, 1, 62, -1, false},
	} {
		n, over, err := qnum.Mul(c.a, c.b, c.bits)
		wantIs(t, call("Mul", c.a, c.b, c.bits), n, over, err, c.want, c.over)
	}
	pairs(5000, func(a, b int64) {
		for _, bits := range someBits {
			checkMul(t, a, b, bits)
		}
	})
}

// Halves of each number of bits, with an even and an odd number below, of both signs, and what lies beside them.
func TestQN2MulHalves(t *testing.T) {
	for _, bits := range allBits[1:] {
		for low := int64(-5); low <= 5; low++ {
			for beside := int64(-1); beside <= 1; beside++ {
				exact := new(big.Int).Add(new(big.Int).Mul(big.NewInt(2*low+1), power(bits-1)), big.NewInt(beside))
				if exact.IsInt64() {
					checkMul(t, exact.Int64(), 1, bits)
					checkMul(t, 1, exact.Int64(), bits)
					checkMul(t, exact.Int64(), -1, bits)
				}
			}
		}
	}
}

func TestQN2MulWrongBits(t *testing.T) {
	for _, bits := range wrong {
		for _, a := range []int64{0, 1, most, least} {
			n, over, err := qnum.Mul(a, 1, bits)
			wantError(t, call("Mul", a, 1, bits), n, over, err, api.ErrArg)
		}
	}
}

func checkDot(t *testing.T, a, b []int64, bits int) {
	t.Helper()
	n, over, err := qnum.Dot(a, b, bits)
	wantNear(t, call("Dot", a, b, bits), n, over, err, exactDot(a, b, bits))
}

func TestQN2Dot(t *testing.T) {
	pairs(5000, func(a, b int64) {
		for _, bits := range []int{0, 1, 20, 30, 62} {
			checkDot(t, []int64{a, b}, []int64{b, a}, bits)
			checkDot(t, []int64{a, b, 1}, []int64{a, b, -1}, bits)
		}
	})
	r := rand.New(rand.NewSource(3))
	for range 3000 {
		long := r.Intn(65)
		a, b := make([]int64, long), make([]int64, long)
		for i := range a {
			a[i], b[i] = random(r), random(r)
		}
		checkDot(t, a, b, r.Intn(63))
	}
}

func TestQN2DotIsRoundedOnce(t *testing.T) {
	for _, c := range []struct {
		a, b []int64
		bits int
		want int64
	}{
		{[]int64{1, 1}, []int64{1, 1}, 1, 1},          // two halves: each alone is rounded to 0
		{[]int64{3, 3}, []int64{1, 1}, 1, 3},          // each alone: 2
		{[]int64{1, 1, 1}, []int64{1, 1, 1}, 1, 2},    // one and a half
		{[]int64{-1, -1}, []int64{1, 1}, 1, -1},       // the same below 0
		{[]int64{3, -1}, []int64{1, 1}, 1, 1},         // each alone: 2 and 0
		{[]int64{1, 1}, []int64{1 << 61, 1}, 62, 1},   // just above a half
		{[]int64{1, -1}, []int64{3 << 61, 1}, 62, 1},  // just below one and a half
		{repeated(1, 64), repeated(1, 64), 6, 1},      // each alone: 0
		{repeated(1, 64), repeated(-33, 64), 6, -33},  // each alone: -1
		{repeated(1, 48), repeated(1, 48), 5, 2},      // one and a half, of 48 parts
		{repeated(-1, 16), repeated(1, 16), 5, 0},     // minus a half, of 16 parts
		{repeated(1<<30, 64), repeated(1, 64), 36, 1}, // one, of 64 parts
	} {
		n, over, err := qnum.Dot(c.a, c.b, c.bits)
		wantIs(t, call("Dot", c.a, c.b, c.bits), n, over, err, c.want, false)
	}
}

// Products far above 64 bits that come back, and 64 of them that do not.
func TestQN2DotComesBack(t *testing.T) {
	back := func(n, m int64, more ...int64) ([]int64, []int64) {
		a, b := repeated(n, 64), repeated(m, 64)
		for i := range 32 {
			b[2*i+1] = -m // m is not the least number
		}
		copy(a[62:], more)
		copy(b[62:], []int64{1, 1})
		return a, b
	}
	for _, m := range []int64{most, top, 1 << 62, 1<<32 + 1} {
		for _, n := range []int64{most, least, top, -top, 1 << 61} {
			for _, bits := range someBits {
				for _, more := range [][]int64{{0, 0}, {1, 0}, {-1, 0}, {top, 0}, {top, 1}, {-top, 0}, {-top, -1}, {top, -top}, {most, least}} {
					a, b := back(n, m, more...)
					checkDot(t, a, b, bits)
				}
			}
		}
	}
	for _, bits := range allBits {
		for _, n := range []int64{most, least, top, -top} {
			for _, m := range []int64{most, least, top, -top} {
				checkDot(t, repeated(n, 64), repeated(m, 64), bits)
				checkDot(t, append(repeated(n, 32), repeated(m, 32)...), append(repeated(m, 32), repeated(n, 32)...), bits)
			}
		}
	}
	n, over, err := qnum.Dot(repeated(least, 64), repeated(least, 64), 0)
	wantIs(t, "64 of the greatest products", n, over, err, top, true)
	n, over, err = qnum.Dot(repeated(least, 64), repeated(most, 64), 0)
	wantIs(t, "64 of the least products", n, over, err, -top, true)
	a, b := back(most, most, 7, -5)
	n, over, err = qnum.Dot(a, b, 0)
	wantIs(t, "what is left of 31 pairs", n, over, err, 2, false)
}

func TestQN2DotOfNone(t *testing.T) {
	for _, bits := range allBits {
		for _, a := range [][]int64{nil, {}} {
			for _, b := range [][]int64{nil, {}} {
				n, over, err := qnum.Dot(a, b, bits)
				wantIs(t, "Dot of none", n, over, err, 0, false)
			}
		}
	}
}

func TestQN2DotWrong(t *testing.T) {
	for _, bits := range wrong {
		for _, long := range []int{0, 1, 64, 65} {
			n, over, err := qnum.Dot(repeated(1, long), repeated(1, long), bits)
			wantError(t, call("Dot of", long, bits), n, over, err, api.ErrArg)
		}
	}
	for _, c := range []struct{ long, other int }{{0, 1}, {1, 0}, {1, 2}, {63, 64}, {64, 63}, {64, 65}, {65, 64}, {65, 65}, {66, 66}, {128, 128}, {1000, 1000}, {0, 65}} {
		for _, bits := range []int{0, 20, 62, 63} {
			n, over, err := qnum.Dot(repeated(0, c.long), repeated(1, c.other), bits)
			wantError(t, call("Dot of", c.long, c.other, bits), n, over, err, api.ErrArg)
		}
	}
	n, over, err := qnum.Dot(repeated(1, 64), repeated(1, 64), 0)
	wantIs(t, "Dot of 64", n, over, err, 64, false)
}

func checkDiv(t *testing.T, a, b int64, bits int) {
	t.Helper()
	n, over, err := qnum.Div(a, b, bits)
	if b == 0 {
		wantError(t, call("Div", a, b, bits), n, over, err, api.ErrNought)
		return
	}
	x := times(big.NewInt(a), bits)
	wantNear(t, call("Div", a, b, bits), n, over, err, x.Quo(x, whole(b)))
}

func TestQN2Div(t *testing.T) {
	for _, c := range []struct {
		a, b int64
		bits int
		want int64
		over bool
	}{
		{3, 2, 0, 2, false}, {1, 2, 0, 0, false}, {5, 2, 0, 2, false}, {7, 2, 0, 4, false}, {-1, 2, 0, 0, false}, {3, -2, 0, -2, false}, {-5, 2, 0, -2, false}, {-7, -2, 0, 4, false},
		{1, 3, 0, 0, false}, {2, 3, 0, 1, false}, {-2, 3, 0, -1, false}, {1, 3, 20, 349525, false}, {2, -3, 20, -699051, false}, {0, most, 62, 0, false}, {0, least, 0, 0, false},
		{1, 1, 61, 1 << 61, false}, {1, 1, 62, top, true}, {-1, 1, 62, -top, true}, {1, -1, 62, -top, true}, {1, 2, 62, 1 << 61, false}, {-1, -1, 62, top, true},
		{top, 1, 0, top, false}, {-top, 1, 0, -top, false}, {top + 1, 1, 0, top, true}, {top + 1, -1, 0, -top, true}, {most, 2, 0, top, true}, {most - 1, 2, 0, top, false}, {least, 2, 0, -top, true},
		{least, -1, 0, top, true}, {least, 1, 0, -top, true}, {least, least, 0, 1, false}, {least, least, 61, 1 << 61, false}, {most, least, 0, -1, false}, {least, most, 0, -1, false}, {1, least, 62, 0, false}, {3, least, 62, -2, false}, {1, least, 0, 0, false},
		{top + 1, least, 0, 0, false}, {top + 2, least, 0, -1, false}, {-top - 1, least, 0, 0, false}, {-top - 2, least, 0, 1, false},
		{most, 1, 62, top, true}, {least, 1, 62, -top, true}, {most, most, 62, top, true}, {top, top + 1, 62, top, false}, {most, 3, 62, top, true}, {least, 3, 62, -top, true},
		{4, 1, 62, top, true}, {1 << 32, 1, 32, top, true}, {-1 << 32, 1, 32, -top, true}, // what is left of the quotient's lowest word is 0
	} {
		n, over, err := qnum.Div(c.a, c.b, c.bits)
		wantIs(t, call("Div", c.a, c.b, c.bits), n, over, err, c.want, c.over)
	}
	pairs(5000, func(a, b int64) {
		for _, bits := range someBits {
			checkDiv(t, a, b, bits)
		}
	})
}

// Quotients just below the bound, and just above it: rounding may take one over it.
func TestQN2DivAtTheBound(t *testing.T) {
	for _, bits := range allBits {
		for b := int64(1); b < 40; b++ {
			for by := int64(-3); by <= 3; by++ {
				exact := new(big.Int).Mul(big.NewInt(b), big.NewInt(top))
				a := new(big.Int).Add(exact.Rsh(exact, uint(bits)), big.NewInt(by))
				if a.IsInt64() {
					checkDiv(t, a.Int64(), b, bits)
					checkDiv(t, -a.Int64(), b, bits)
					checkDiv(t, a.Int64(), -b, bits)
				}
			}
		}
	}
}

func TestQN2DivHalves(t *testing.T) {
	for _, bits := range allBits {
		for n := int64(-7); n <= 7; n++ {
			for _, b := range []int64{2, -2, 4, 6, -10, 1 << 20, 1 << 61, -1 << 61, 1 << 62, least, least + 2, most - 1} {
				checkDiv(t, n, b, bits)
				checkDiv(t, n+b/2, b, bits)
				checkDiv(t, n*(b/8)*4, b, 0)
			}
		}
	}
}

func TestQN2DivWrong(t *testing.T) {
	for _, a := range []int64{0, 1, -1, most, least} {
		for _, bits := range allBits {
			n, over, err := qnum.Div(a, 0, bits)
			wantError(t, call("Div", a, 0, bits), n, over, err, api.ErrNought)
		}
		for _, bits := range wrong {
			for _, b := range []int64{0, 1, least} { // bits are looked at ahead of b
				n, over, err := qnum.Div(a, b, bits)
				wantError(t, call("Div", a, b, bits), n, over, err, api.ErrArg)
			}
		}
	}
}

func TestQN2Move(t *testing.T) {
	for _, c := range []struct {
		a        int64
		from, to int
		want     int64
		over     bool
	}{
		{1, 0, 20, 1 << 20, false}, {-3, 20, 30, -3 << 10, false}, {3 << 20, 20, 0, 3, false}, {1, 1, 0, 0, false}, {3, 1, 0, 2, false}, {-1, 1, 0, 0, false}, {-3, 1, 0, -2, false}, {5, 31, 30, 2, false}, {-5, 31, 30, -2, false}, {6, 62, 60, 2, false},
		{0, 0, 62, 0, false}, {1, 0, 61, 1 << 61, false}, {1, 0, 62, top, true}, {-1, 0, 62, -top, true}, {least, 0, 62, -top, true}, {most, 0, 62, top, true}, {most, 62, 0, 2, false}, {least, 62, 0, -2, false}, {1 << 61, 62, 0, 0, false}, {3 << 61, 62, 0, 2, false},
		{top, 7, 7, top, false}, {top + 1, 7, 7, top, true}, {-top, 0, 0, -top, false}, {-top - 1, 62, 62, -top, true}, {most, 1, 0, top, true}, {most - 1, 1, 0, top, false}, {least, 1, 0, -top, true}, {4, 0, 62, top, true}, {16, 0, 62, top, true},
	} {
		n, over, err := qnum.Move(c.a, c.from, c.to)
		wantIs(t, call("Move", c.a, c.from, c.to), n, over, err, c.want, c.over)
	}
	singles(200, func(a int64) {
		for _, from := range someBits {
			for _, to := range someBits {
				n, over, err := qnum.Move(a, from, to)
				wantNear(t, call("Move", a, from, to), n, over, err, times(big.NewInt(a), to-from))
			}
		}
	})
}

func TestQN2MoveWrong(t *testing.T) {
	for _, bits := range wrong {
		for _, good := range []int{0, 20, 62} {
			n, over, err := qnum.Move(1, bits, good)
			wantError(t, call("Move", 1, bits, good), n, over, err, api.ErrArg)
			n, over, err = qnum.Move(1, good, bits)
			wantError(t, call("Move", 1, good, bits), n, over, err, api.ErrArg)
		}
		n, over, err := qnum.Move(0, bits, bits)
		wantError(t, call("Move", 0, bits, bits), n, over, err, api.ErrArg)
	}
}
