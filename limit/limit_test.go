package limit_test

import (
	"math"
	"slices"
	"testing"

	"leeboard/limit"
)

func TestWithin(t *testing.T) {
	for _, c := range []struct {
		n, least, most int
		want           bool
	}{
		{1, 1, 9, true}, {9, 1, 9, true}, {5, 1, 9, true}, {5, 5, 5, true},
		{0, 1, 9, false}, {10, 1, 9, false}, {4, 5, 5, false}, {5, 9, 1, false},
		{math.MinInt, 0, 9, false}, {math.MaxInt, 0, 9, false},
		{math.MinInt, math.MinInt, 0, true}, {math.MaxInt, 0, math.MaxInt, true},
	} {
		if got := limit.Within(c.n, c.least, c.most); got != c.want {
			t.Errorf("%d from %d to %d: %v", c.n, c.least, c.most, got)
		}
	}
}

func TestOneZone(t *testing.T) {
	for n := -20; n <= 300; n++ {
		if got := limit.OneZone(n); got != slices.Contains([]int{1, 2, 4, 8}, n) {
			t.Errorf("%d: %v", n, got)
		}
	}
	for _, n := range []int{math.MinInt, math.MaxInt, 1 << 32, 1<<32 + 1} {
		if limit.OneZone(n) {
			t.Errorf("%d is one", n)
		}
	}
}

func TestIsTime(t *testing.T) {
	for n, want := range map[int]bool{
		0: true, 1: true, 5000: true, 9998: true, 9999: true,
		-1: false, 10000: false, 10099: false, math.MinInt: false, math.MaxInt: false, 1 << 32: false,
	} {
		if got := limit.IsTime(n); got != want {
			t.Errorf("%d: %v", n, got)
		}
	}
}
