package wide

import (
	"bytes"
	"slices"
	"strings"

	"radome/api"
)

const (
	maxDigits   = 1300 // of a text, a sign aside
	groupDigits = 9    // as many as a word has room for, whatever they are
	group       = 1000000000
)

// Text is the number in digits.
func (a Int) Text() string {
	if a.Sign() == 0 {
		return "0"
	}
	var back []byte // the lowest digit first
	for left, low := a.size, uint32(0); left != (size{}); {
		left, low = left.byWord(group)
		for range groupDigits {
			back = append(back, '0'+byte(low%10))
			low /= 10
		}
	}
	back = bytes.TrimRight(back, "0")
	if a.below {
		back = append(back, '-')
	}
	slices.Reverse(back)
	return string(back)
}

// Parse is the number of digits.
func Parse(s string) (Int, error) {
	digits, below := strings.CutPrefix(s, "-")
	if !plain(digits) || below && digits == "0" {
		return Int{}, api.ErrForm
	}
	var far size
	for part := range slices.Chunk([]byte(digits), groupDigits) {
		var spilt bool
		far, spilt = far.timesWord(wordOf(part))
		if spilt {
			return Int{}, api.ErrSpill
		}
	}
	return signed(below, far), nil
}

// plain tells whether a text is digits alone, not too many, without needless noughts.
func plain(s string) bool {
	if s == "" || len(s) > maxDigits || s[0] == '0' && s != "0" {
		return false
	}
	return !strings.ContainsFunc(s, func(r rune) bool { return r < '0' || r > '9' })
}

// wordOf is ten to the power of how many digits there are, and what they tell.
func wordOf(digits []byte) (uint32, uint32) {
	power, n := uint32(1), uint32(0)
	for _, digit := range digits {
		power, n = power*10, n*10+uint32(digit-'0')
	}
	return power, n
}
