package root

import (
	"cusp/api"
	"cusp/arith"
	"cusp/ball"
	"cusp/ieee"
	"cusp/round"
)

// The functions of this file take finite values, and balls that may be.

// sideOf is the side of the cut from which a point comes.
func sideOf(z complex128) int {
	_, below := ieee.Class(imag(z))
	switch {
	case real(z) >= 0 || imag(z) != 0:
		return api.SideNone
	case below:
		return api.SideBelow
	}
	return api.SideAbove
}

// ofPoint is a ball that holds a point's root.
func ofPoint(z complex128) api.Ball {
	p := partsOf(z)
	apart := arith.Sub(p.rounded(api.Up), p.rounded(api.Down), api.Up)
	out, _ := ball.Of(p.rounded(api.Near), round.Add(real(apart), imag(apart), api.Up))
	return out
}

// bothSides is a ball that holds both roots of each number; of the plane the plane.
func bothSides(b api.Ball) api.Ball {
	abs, _ := ball.Abs(b)
	out, _ := ball.Of(0, round.Sqrt(abs.Hi, api.Up))
	return out
}

// oneSide is a ball that holds the roots of a ball that does not meet the cut.
func oneSide(b api.Ball) api.Ball {
	out, _ := ball.Grow(ofPoint(b.Mid), reach(b))
	return out
}

// reach is how far the roots of such a ball are from its middle's.
func reach(b api.Ball) float64 {
	// With c the middle's root, w another one, and d how far they are apart: |w - c| * |w + c| is at most Rad, and |w + c| at least 2|c| - d, so d (2|c| - d) is at most Rad, that is below |c|^2. On the way from the middle to the other number d begins with 0 and is never |c|: so it stays below |c|, and is at most |c| less the root of |c|^2 - Rad. That is Rad over the sum of these two, and |c|^2 - Rad the least magnitude.
	abs, _ := ball.Abs(b)
	middle := round.Sqrt(arith.Abs(b.Mid, api.Down), api.Down)
	nearest := round.Sqrt(abs.Lo, api.Down)
	return round.Div(b.Rad, round.Add(middle, nearest, api.Down), api.Up)
}
