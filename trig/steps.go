package trig

import (
	"math/bits"

	"radome/api"
	"radome/qnum"
	"radome/turn"
)

const (
	angleBits = 62 // 2^62 of the angles' parts are a whole turn
	turnBits  = 32 // 2^32 of a direction's are
	eighth    = 1 << (angleBits - 3)

	// start is the cosine of an eighth of a turn, with pairBits bits behind the point. It is less by what all steps make a pair greater, so that none has to be undone.
	start    = 495056041134655927
	pairBits = 60
)

// angles are those whose tangents are 2^-k, in parts of 2^62 of a turn.
var angles = [...]int64{
	576460752303423488, 340304653033718298, 179807632645220259, 91273161881380487, 45813697873323707,
	22929182573009054, 11467389120678282, 5734044481687724, 2867065987018958, 1433538461969102,
	716769914547871, 358385042719534, 179192532040472, 89596267355325, 44798133844548,
	22399066943135, 11199533474175, 5599766737413, 2799883368747, 1399941684379,
	699970842190, 349985421095, 174992710548, 87496355274, 43748177637,
	21874088818, 10937044409, 5468522205, 2734261102, 1367130551,
	683565276, 341782638, 170891319, 85445659, 42722830,
	21361415, 10680707, 5340354, 2670177, 1335088,
}

// pair is what is turned step by step.
type pair struct{ x, y int64 }

// anticlockwise is the pair turned by the angle whose tangent is 2^-k; a shift cuts down, below 0 too.
func (p pair) anticlockwise(k int) pair { return pair{p.x - p.y>>k, p.y + p.x>>k} }

// clockwise is the pair turned the other way.
func (p pair) clockwise(k int) pair { return pair{p.x + p.y>>k, p.y - p.x>>k} }

// inFirstQuarter are the sine and the cosine of what a direction is ahead of its quarter.
func inFirstQuarter(t turn.Turn) (int64, int64) {
	const within = 1<<quarterBits - 1
	p, rest := pair{start, start}, int64(t&within)<<(angleBits-turnBits)-eighth
	for k, angle := range angles {
		if rest >= 0 {
			p, rest = p.anticlockwise(k), rest-angle
		} else {
			p, rest = p.clockwise(k), rest+angle
		}
	}
	return moved(p.y, pairBits, api.Prob), moved(p.x, pairBits, api.Prob)
}

// fromAxis is the angle of a place from the y axis, by the sizes of its numbers, of which one is not 0. It needs no bounds: the steps end by far less than half a part off, so what is rounded is from 0 to a quarter.
func fromAxis(x, y uint64) turn.Turn {
	p, angle := raised(y, x), int64(0)
	for k, by := range angles {
		if p.y > 0 {
			p, angle = p.clockwise(k), angle+by
		} else {
			p, angle = p.anticlockwise(k), angle-by
		}
	}
	return turn.Turn(moved(angle, angleBits, turnBits))
}

// raised is the pair of both sizes, moved by one power of two so that the greater one has pairBits bits: as many as leave room for what the steps make greater.
func raised(x, y uint64) pair {
	places := pairBits - bits.Len64(max(x, y))
	if places < 0 {
		return pair{int64(x >> -places), int64(y >> -places)}
	}
	return pair{int64(x << places), int64(y << places)}
}

// moved is a number with other bits behind its point, rounded.
func moved(a int64, from, to int) int64 {
	near, _, _ := qnum.Move(a, from, to)
	return near
}
