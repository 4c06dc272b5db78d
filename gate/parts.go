package gate

import (
	"errors"

	"radome/api"
	"radome/polar"
	"radome/predict"
	"radome/update"
)

const (
	maxMost = 1024 << api.Frac
	none    = -1 // no place
)

// mostMayBe tells whether a place may be asked to be no farther than that.
func mostMayBe(most int64) bool { return most >= 1 && most <= maxMost }

// check is an error, if not each state can be held against each place.
func check(l []predict.State, p []polar.Seen, most int64) error {
	if !mostMayBe(most) {
		return api.ErrArg
	}
	if len(l) > api.MaxTracks || len(p) > api.MaxPlots {
		return api.ErrLong
	}
	if !areStates(l) || !arePlaces(p) {
		return api.ErrArg
	}
	return nil
}

// areStates tells whether all may be.
func areStates(l []predict.State) bool {
	for _, s := range l {
		if predict.Check(s) != nil {
			return false
		}
	}
	return true
}

// arePlaces tells whether all may be. Layer 13 tells that of a place beside a state: so each is held against one that may be, as no state need be handed in.
func arePlaces(p []polar.Seen) bool {
	s, _ := predict.Blank(0, 0, 0, 0, 1, 1, 1)
	for _, seen := range p {
		if _, _, err := update.Of(s, seen); errors.Is(err, api.ErrArg) {
			return false
		}
	}
	return true
}

// near is a place that is near enough: which one, and how far it is.
type near struct {
	place int
	far   int64
}

// nearEach are, of each state, the places that are near enough; whether a number was too great.
func nearEach(l []predict.State, p []polar.Seen, most int64) ([][]near, bool, error) {
	if err := check(l, p, most); err != nil {
		return nil, false, err
	}
	out, over := make([][]near, len(l)), false
	for i, s := range l {
		around, great, err := nearTo(s, p, most)
		if err != nil {
			return nil, false, err
		}
		out[i], over = around, over || great
	}
	return out, over, nil
}

// nearTo are the places that are near enough to a state, ascending; whether a number was too great.
func nearTo(s predict.State, p []polar.Seen, most int64) ([]near, bool, error) {
	var out []near
	over := false
	for i, seen := range p {
		far, enough, great, err := Gate(s, seen, most)
		if errors.Is(err, api.ErrNone) { // of these two nothing can be told; other places may be near
			continue
		}
		if err != nil {
			return nil, false, err
		}
		if enough {
			out = append(out, near{i, far})
		}
		over = over || great
	}
	return out, over, nil
}

// places are which ones they are.
func places(around []near) []int {
	var out []int
	for _, n := range around {
		out = append(out, n.place)
	}
	return out
}

// leastFar is the first place of those that are the least far.
func leastFar(around []near) int {
	if len(around) == 0 {
		return none
	}
	out := around[0]
	for _, n := range around {
		if n.far < out.far {
			out = n
		}
	}
	return out.place
}
