package wide

import (
	"cmp"
	"math/bits"
	"slices"

	"radome/api"
)

const (
	wordBits = 32
	room     = api.MaxWide // words of a size
	allBits  = room * wordBits
)

// size is how far a number is from 0: its words, the lowest first.
type size [room]uint32

// wordAt is one of the words; beyond both ends there are noughts.
func wordAt(words []uint32, i int) uint32 {
	if i < 0 || i >= len(words) {
		return 0
	}
	return words[i]
}

// used is how many words there are up to the highest one that is not 0.
func (a size) used() int {
	n := room
	for n > 0 && a[n-1] == 0 {
		n--
	}
	return n
}

func (a size) cmp(b size) int {
	for i := room - 1; i >= 0; i-- {
		if a[i] != b[i] {
			return cmp.Compare(a[i], b[i])
		}
	}
	return 0
}

// plus is the sum; whether it has no room.
func (a size) plus(b size) (size, bool) {
	carry := uint32(0)
	for i := range a {
		a[i], carry = bits.Add32(a[i], b[i], carry)
	}
	return a, carry != 0
}

// minus is the difference; b is not above a.
func (a size) minus(b size) size {
	borrow := uint32(0)
	for i := range a {
		a[i], borrow = bits.Sub32(a[i], b[i], borrow)
	}
	return a
}

// times is the product; whether it has no room.
func (a size) times(b size) (size, bool) {
	var all [2 * room]uint32
	n := b.used()
	for i, w := range a[:a.used()] {
		carry := uint64(0)
		for j, v := range b[:n] {
			sum := uint64(w)*uint64(v) + uint64(all[i+j]) + carry // 2^64 - 1 at most
			all[i+j], carry = uint32(sum), sum>>wordBits
		}
		all[i+n] = uint32(carry)
	}
	var kept size
	copy(kept[:], all[:room])
	return kept, slices.ContainsFunc(all[room:], func(lost uint32) bool { return lost != 0 })
}

// timesWord is the product with a word, and another word more; whether it has no room.
func (a size) timesWord(w, more uint32) (size, bool) {
	carry := uint64(more)
	for i := range a {
		sum := uint64(a[i])*uint64(w) + carry
		a[i], carry = uint32(sum), sum>>wordBits
	}
	return a, carry != 0
}

// byWord is the quotient, cut down, and the rest; w is not 0.
func (a size) byWord(w uint32) (size, uint32) {
	rest := uint32(0)
	for i := a.used() - 1; i >= 0; i-- {
		a[i], rest = bits.Div32(rest, a[i], w)
	}
	return a, rest
}

// root is the greatest one whose square is not above a, by Newton's steps.
func (a size) root() size {
	n := a.used()
	if n == 0 {
		return size{}
	}
	long := (n-1)*wordBits + bits.Len32(a[n-1])
	half := (long + 1) / 2
	var root size
	root[half/wordBits] = 1 << (half % wordBits) // not below the root: from there on each step goes down to it
	for {
		quotient, _ := a.by(root)
		sum, _ := root.plus(quotient)
		next, _ := sum.byWord(2)
		if next.cmp(root) >= 0 {
			return root
		}
		root = next
	}
}
