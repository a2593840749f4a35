// Package ticks is sums of ticks that do not wrap: what several layers reckon with.
package ticks

import "math"

// Later is the tick that is some ticks (0 or more) behind another one, or the greatest number, if there is no such tick.
func Later(now, by int) int {
	if now > math.MaxInt-by {
		return math.MaxInt
	}
	return now + by
}
