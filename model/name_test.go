package model_test

import (
	"math"
	"testing"

	"radome/model"
)

func TestMO1KindsAndTheirNames(t *testing.T) {
	for number, name := range []string{"still", "pushed", "left", "right"} {
		if got := model.Name(number); got != name {
			t.Errorf("Name(%d): %q; want %q", number, got, name)
		}
		if kinds[number] != number {
			t.Errorf("%s is %d; want %d", name, kinds[number], number)
		}
	}
}

// wrongKinds are numbers that are no kind's, ones whose lowest bits are among them.
var wrongKinds = []int{
	-1, 4, -2, 5, -3, -4, 1 << 8, 1<<8 + 1, 1 << 16, 1<<16 + 2, 1 << 32, 1<<32 + 1, 1<<32 + 2, 1<<32 + 3, -1 << 32, 3 - 1<<32,
	math.MaxInt, math.MaxInt - 1, math.MinInt, math.MinInt + 1, math.MinInt + 2, math.MinInt + 3,
}

func TestMO1TheNameOfNoKindIsEmpty(t *testing.T) {
	for _, kind := range wrongKinds {
		if got := model.Name(kind); got != "" {
			t.Errorf("Name(%d): %q", kind, got)
		}
	}
	for kind := -1000; kind <= 1000; kind++ {
		if got := model.Name(kind); (got == "") != (kind < 0 || kind > 3) {
			t.Errorf("Name(%d): %q", kind, got)
		}
	}
}

func TestMO1CheckOfWhatMayBe(t *testing.T) {
	for _, m := range models() {
		if err := model.Check(m); err != nil {
			t.Errorf("Check(%v): %v", m, err)
		}
	}
}
