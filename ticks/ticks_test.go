package ticks

import (
	"math"
	"testing"
)

func TestLater(t *testing.T) {
	for _, c := range [][3]int{
		{0, 0, 0}, {5, 7, 12}, {-5, 7, 2}, {math.MinInt, 1, math.MinInt + 1},
		{math.MaxInt, 0, math.MaxInt}, {math.MaxInt - 3, 3, math.MaxInt}, {math.MaxInt - 3, 4, math.MaxInt},
		{math.MaxInt, math.MaxInt, math.MaxInt}, {1, math.MaxInt, math.MaxInt}, {-1, math.MaxInt, math.MaxInt - 1},
	} {
		if got := Later(c[0], c[1]); got != c[2] {
			t.Errorf("Later(%d, %d) = %d", c[0], c[1], got)
		}
	}
}
