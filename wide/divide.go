package wide

import "math/bits"

// by is the quotient, cut down, and the rest; b is not 0. It is long division, word by word.
func (a size) by(b size) (size, size) {
	n := b.used()
	if n == 1 {
		quotient, rest := a.byWord(b[0])
		return quotient, size{rest}
	}
	// With the highest bit of b's highest word set, a guess by its two highest words is one too great at most.
	shift := bits.LeadingZeros32(b[n-1])
	rest := raised(a, shift)
	divisor := raised(b, shift)
	var quotient size
	for at := a.used() - n; at >= 0; at-- {
		quotient[at] = nextWord(rest[at:at+n+1], divisor[:n])
	}
	return quotient, lowered(rest, shift)
}

// nextWord is a word of the quotient; what is left stays in rest, which has one word more than b and is below b times 2^32.
func nextWord(rest, b []uint32) uint32 {
	word := guess(rest, b)
	if takeAway(rest, b, word) {
		word--
		giveBack(rest, b)
	}
	return word
}

// guess is the word of the quotient, or one more than it.
func guess(rest, b []uint32) uint32 {
	n := len(b)
	high := uint64(rest[n])<<wordBits | uint64(rest[n-1])
	word := min(high/uint64(b[n-1]), 1<<wordBits-1)
	left := high - word*uint64(b[n-1])
	for left < 1<<wordBits && word*uint64(b[n-2]) > left<<wordBits|uint64(rest[n-2]) {
		word--
		left += uint64(b[n-1])
	}
	return uint32(word)
}

// takeAway takes b times a word from rest; it tells whether that was too much.
func takeAway(rest, b []uint32, word uint32) bool {
	carry, borrow := uint64(0), uint32(0)
	for i, w := range b {
		product := uint64(word)*uint64(w) + carry
		rest[i], borrow = bits.Sub32(rest[i], uint32(product), borrow)
		carry = product >> wordBits
	}
	last := len(b)
	rest[last], borrow = bits.Sub32(rest[last], uint32(carry), borrow)
	return borrow != 0
}

// giveBack adds b to rest once; the carry out of it ends the borrow that takeAway told.
func giveBack(rest, b []uint32) {
	carry := uint32(0)
	for i, w := range b {
		rest[i], carry = bits.Add32(rest[i], w, carry)
	}
	rest[len(b)] += carry
}

// raised is a times 2 to the power of shift (0 to 31), with a word more for what goes over the top.
func raised(a size, shift int) [room + 1]uint32 {
	var out [room + 1]uint32
	for i := range out {
		out[i] = wordAt(a[:], i)<<shift | wordAt(a[:], i-1)>>(wordBits-shift)
	}
	return out
}

// lowered undoes raised.
func lowered(a [room + 1]uint32, shift int) size {
	var out size
	for i := range out {
		out[i] = a[i]>>shift | a[i+1]<<(wordBits-shift)
	}
	return out
}
