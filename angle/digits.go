package angle

import (
	"math"

	"cusp/api"
	"cusp/fixed"
	"cusp/natural"
	"cusp/round"
	"cusp/span"
)

// floatBits is how many binary digits a float has.
const floatBits = 53

// Up to these no digits are needed.
const (
	// A quotient of floats is above the next lower float by over 2^-106 times itself. Its arctangent falls short of it by less than a third of its square times itself: so that lies above the same float.
	smallQuotient = 0x1p-53
	// An arcsine is above its float by less than a fifth of that float's square times itself: so it lies below the next float.
	smallSine = 0x1p-26
)

// upper is the least interval that holds the angle of x + yi, of a y that is not below 0. That is 0 or no fraction.
func upper(x, y float64) api.Interval {
	right := !math.Signbit(x)
	switch {
	case y == 0 && right:
		return api.Interval{}
	case y == 0:
		return fixed.Least(fixed.Pi)
	}
	x = math.Abs(x)
	if quotient := round.Div(y, x, api.Up); right && quotient <= smallQuotient {
		s, _ := span.Of(before(quotient), quotient) // it makes a nought +0
		return s
	}
	t := turnOf(aligned(x, y))
	if !right {
		t = t.mirrored()
	}
	return fixed.Least(t.told)
}

// arcsine is that of the arcsine of a float above 0, and at most 1.
func arcsine(x float64) api.Interval {
	if x <= smallSine {
		return api.Interval{Lo: x, Hi: after(x)}
	}
	return fixed.Least(func(bits int) fixed.Bounds { return arcsineAt(x, bits) })
}

// arcsineAt is the arcsine of a float above 0, and at most 1, to so many binary digits at least: the angle of the point on the circle around 0 that has x as its second part.
func arcsineAt(x float64, bits int) fixed.Bounds {
	digits, power := exactly(x)
	places := bits - power // x itself has no more than -power
	one, second := natural.Left(natural.Of(1), places), natural.Left(digits, bits)
	first, _ := natural.Root(natural.Sub(natural.Mul(one, one), natural.Mul(second, second)))
	// The first part is less than a unit of the last place too small, and so the angle not too small, and too great by less than 2: by a unit over the second part, if that is 1/2 or more, and by less than one, if it is not.
	return turnOf(first, second).at(places).Minus(fixed.Short(nil, 2, places))
}

// exactly is a finite float that is not below 0: digits times 2^power.
func exactly(f float64) ([]uint32, int) {
	part, e := math.Frexp(f)
	return natural.Of(uint64(math.Ldexp(part, floatBits))), e - floatBits
}

// aligned are the digits of two such floats with one power of two.
func aligned(f, g float64) ([]uint32, []uint32) {
	a, first := exactly(f)
	b, second := exactly(g)
	power := min(first, second)
	return natural.Left(a, first-power), natural.Left(b, second-power)
}
