package ball

import (
	"cusp/api"
	"cusp/dyad"
)

// The functions of this file take finite floats, and balls that may be and are not the plane. No call of dyad has an error: no number is longer than a few squares of floats, each written out from 2^1024 to 2^-1074.

// finestPlace is that of the last binary digit that a float can have.
const finestPlace = 1074

func exact(f float64) dyad.Num {
	n, _ := dyad.Of(f)
	return n
}

func difference(a, b float64) dyad.Num {
	n, _ := dyad.Sub(exact(a), exact(b))
	return n
}

// squares is a * a + b * b.
func squares(a, b dyad.Num) dyad.Num {
	aa, _ := dyad.Mul(a, a)
	bb, _ := dyad.Mul(b, b)
	sum, _ := dyad.Add(aa, bb)
	return sum
}

// apart is the square of the distance between two numbers.
func apart(z, w complex128) dyad.Num {
	return squares(difference(real(z), real(w)), difference(imag(z), imag(w)))
}

// near tells whether the distance between two numbers is at most this one, that may be below 0.
func near(z, w complex128, far dyad.Num) bool {
	return dyad.Sign(far) >= 0 && dyad.Cmp(apart(z, w), squares(far, dyad.Num{})) <= 0
}

// farthest is the greatest distance of a number of b from z, rounded up.
func farthest(z complex128, b api.Ball) float64 {
	f, _ := dyad.Up(exact(b.Rad), apart(z, b.Mid), dyad.Num{})
	return f
}

// nearest is the least magnitude of a number of b, rounded down.
func nearest(b api.Ball) float64 {
	// The magnitude of Mid may be cut ahead of the difference: a float is not above the exact one just if the float and Rad, added, are not above that magnitude, and this sum has no finer digit.
	mid, _, _ := dyad.Root(apart(b.Mid, 0), finestPlace)
	rest, _ := dyad.Sub(mid, exact(b.Rad))
	if dyad.Sign(rest) <= 0 {
		return 0
	}
	f, _ := dyad.Round(rest, api.Down)
	return f
}

// reach is the greatest distance of a number of an interval from one of them.
func reach(s api.Interval, mid float64) dyad.Num {
	low, high := difference(mid, s.Lo), difference(s.Hi, mid)
	if dyad.Cmp(low, high) > 0 {
		return low
	}
	return high
}

// diagonal is that of a rectangle with these sides, rounded up.
func diagonal(width, height dyad.Num) float64 {
	f, _ := dyad.Up(dyad.Num{}, squares(width, height), dyad.Num{})
	return f
}
