package imm

import (
	"radome/like"
	"radome/model"
	"radome/polar"
	"radome/predict"
	"radome/update"
)

// stepped is a state after a time, by its model; whether a number was too great.
func stepped(s predict.State, m model.Model, dt int64) (predict.State, bool, error) {
	step, stepOver, err := model.Step(m, dt)
	if err != nil {
		return predict.State{}, false, err
	}
	noise, noiseOver, err := model.Noise(m, dt)
	if err != nil {
		return predict.State{}, false, err
	}
	out, over, err := predict.Next(s, step, noise)
	if err != nil {
		return predict.State{}, false, err
	}
	return out, stepOver || noiseOver || over, nil
}

// updated is a state that has seen a place, and how likely that one was; whether a number was too great.
func updated(s predict.State, p polar.Seen) (predict.State, int64, bool, error) {
	gap, gapOver, err := update.Of(s, p)
	if err != nil {
		return predict.State{}, 0, false, err
	}
	log, logOver, err := like.Of(gap)
	if err != nil {
		return predict.State{}, 0, false, err
	}
	out, over, err := update.Next(s, p)
	if err != nil {
		return predict.State{}, 0, false, err
	}
	return out, log, gapOver || logOver || over, nil
}
