// Package wide is layer 1: whole numbers of any size: see shared/doc/01-wide.md.
package wide

import (
	"math"

	"radome/api"
)

// Int is a whole number of any size, up to some bits.
type Int struct {
	below bool // never of 0, so that each number has one form
	size  size
}

// signed keeps 0 from having a sign.
func signed(below bool, s size) Int {
	return Int{below: below && s != size{}, size: s}
}

// Of is a number of 64 bits.
func Of(n int64) Int {
	far := uint64(n)
	if n < 0 {
		far = -far // wraps round to 2^63 for the least one, whose size is no int64
	}
	return signed(n < 0, size{uint32(far), uint32(far >> wordBits)})
}

// Add is the sum.
func (a Int) Add(b Int) (Int, error) {
	if a.below != b.below {
		return a.less(b), nil
	}
	sum, spilt := a.size.plus(b.size)
	if spilt {
		return Int{}, api.ErrSpill
	}
	return signed(a.below, sum), nil
}

// less is the sum of two whose signs differ: it is no farther from 0 than both are.
func (a Int) less(b Int) Int {
	if a.size.cmp(b.size) < 0 {
		return signed(b.below, b.size.minus(a.size))
	}
	return signed(a.below, a.size.minus(b.size))
}

// Sub is the difference.
func (a Int) Sub(b Int) (Int, error) { return a.Add(b.Neg()) }

// Mul is the product.
func (a Int) Mul(b Int) (Int, error) {
	product, spilt := a.size.times(b.size)
	if spilt {
		return Int{}, api.ErrSpill
	}
	return signed(a.below != b.below, product), nil
}

// Div is the quotient, and the rest, which is not below 0.
func (a Int) Div(b Int) (Int, Int, error) {
	if b.Sign() == 0 {
		return Int{}, Int{}, api.ErrNought
	}
	quotient, rest := a.size.by(b.size)
	if a.below && rest != (size{}) {
		// One more of b's size lifts the rest from below 0; the quotient has room for it, as b's size is above 1 here.
		quotient, _ = quotient.plus(size{1})
		rest = b.size.minus(rest)
	}
	return signed(a.below != b.below, quotient), signed(false, rest), nil
}

// Cmp compares two.
func (a Int) Cmp(b Int) int {
	switch {
	case a.below && b.below:
		return b.size.cmp(a.size)
	case a.below:
		return -1
	case b.below:
		return 1
	}
	return a.size.cmp(b.size)
}

// Sign is -1, 0 or 1.
func (a Int) Sign() int { return a.Cmp(Int{}) }

// Neg is the number with the other sign.
func (a Int) Neg() Int { return signed(!a.below, a.size) }

// Small is the number, if it is one of 64 bits.
func (a Int) Small() (int64, bool) {
	far := uint64(a.size[1])<<wordBits | uint64(a.size[0])
	most := uint64(math.MaxInt64)
	if a.below {
		most++
	}
	if a.size.used() > 2 || far > most {
		return 0, false
	}
	if a.below {
		far = -far
	}
	return int64(far), true
}

// Root is the greatest whole number whose square is not above.
func (a Int) Root() (Int, error) {
	if a.below {
		return Int{}, api.ErrArg
	}
	return signed(false, a.size.root()), nil
}

// Move is the number times a power of two, cut down.
func (a Int) Move(bits int) (Int, error) {
	if bits < -allBits || bits > allBits {
		return Int{}, api.ErrArg
	}
	whole, part := bits>>5, bits&31 // the shift cuts down, so that part is right for bits below 0 too
	moved := func(at int) uint32 {
		return wordAt(a.size[:], at-whole)<<part | wordAt(a.size[:], at-whole-1)>>(wordBits-part)
	}
	lost := func(from, to int) bool {
		for at := from; at < to; at++ {
			if moved(at) != 0 {
				return true
			}
		}
		return false
	}
	if lost(room, 2*room) {
		return Int{}, api.ErrSpill
	}
	var kept size
	for at := range kept {
		kept[at] = moved(at)
	}
	if a.below && lost(-room, 0) {
		kept, _ = kept.plus(size{1}) // cut down is farther from 0 here; halved at least, it has room for that
	}
	return signed(a.below, kept), nil
}
