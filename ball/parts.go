package ball

import (
	"math"

	"cusp/api"
	"cusp/point"
	"cusp/round"
	"cusp/span"
)

// mayBe tells whether all of these balls may be.
func mayBe(list ...api.Ball) bool {
	for _, b := range list {
		if !Valid(b) {
			return false
		}
	}
	return true
}

// finite tells whether both parts are.
func finite(z complex128) bool {
	class := point.Class(z)
	return class == point.Zero || class == point.Finite
}

// orPlane is the ball of a middle and a radius that are no NaNs; the plane, where something is infinite.
func orPlane(mid complex128, rad float64) api.Ball {
	b := api.Ball{Mid: mid, Rad: rad}
	if !Valid(b) {
		return Plane()
	}
	return b
}

// halfway is half of the exact sum of two finite floats, rounded to the nearest.
func halfway(a, b float64) float64 {
	s, _ := span.Of(min(a, b), max(a, b))
	mid, _ := span.Mid(s)
	return mid
}

// around is the least interval of the numbers at most rad away from x.
func around(x, rad float64) api.Interval {
	s, _ := span.Of(round.Sub(x, rad, api.Down), round.Add(x, rad, api.Up))
	return s
}

func endless(s api.Interval) bool { return math.IsInf(s.Lo, 0) || math.IsInf(s.Hi, 0) }
