package imm

import (
	"radome/api"
	"radome/chance"
	"radome/model"
	"radome/predict"
)

const maxFloor = 1 << 26

// areModels tells whether there are from one model to MaxModels, each of which may be.
func areModels(l []model.Model) bool {
	if len(l) < 1 || len(l) > api.MaxModels {
		return false
	}
	for _, m := range l {
		if model.Check(m) != nil {
			return false
		}
	}
	return true
}

// areRows tells whether there are so many rows, each of as many chances.
func areRows(rows [][]int64, many int) bool {
	if len(rows) != many {
		return false
	}
	for _, row := range rows {
		if !areChances(row, many) {
			return false
		}
	}
	return true
}

// areChances tells whether there are so many chances.
func areChances(l []int64, many int) bool { return len(l) == many && chance.Check(l, 0) == nil }

// mayBeFloor tells whether a floor may be.
func mayBeFloor(floor int64) bool { return floor >= 0 && floor <= maxFloor }

// mayBe tells whether there is a state by each of so many models, and a chance of each.
func (m Imm) mayBe(many int) bool {
	if len(m.States) != many || !areChances(m.Chances, many) {
		return false
	}
	for _, s := range m.States {
		if predict.Check(s) != nil {
			return false
		}
	}
	return true
}
