package bexp

import (
	"math"
	"slices"

	"cusp/api"
	"cusp/ball"
	"cusp/dyad"
	"cusp/span"
	"cusp/trig"
)

// The calls of dyad that stand here have errors only for what is no number, and for numbers far longer than the product of two floats.

func exact(f float64) dyad.Num {
	n, _ := dyad.Of(f)
	return n
}

func added(a, b dyad.Num) dyad.Num {
	n, _ := dyad.Add(a, b)
	return n
}

func taken(a, b dyad.Num) dyad.Num {
	n, _ := dyad.Sub(a, b)
	return n
}

func multiplied(a, b dyad.Num) dyad.Num {
	n, _ := dyad.Mul(a, b)
	return n
}

// A part is a float that stands for all numbers of an interval, none of them more than half away from it.
type part struct {
	mid  float64
	half dyad.Num
}

// middle is that of an interval that may be and has both its ends.
func middle(s api.Interval) part {
	mid, _ := span.Mid(s)
	above, below := taken(exact(s.Hi), exact(mid)), taken(exact(mid), exact(s.Lo))
	if dyad.Cmp(above, below) < 0 {
		return part{mid, below}
	}
	return part{mid, above}
}

// circle are the parts of the numbers with these magnitudes and a finite argument.
func circle(abs api.Interval, arg float64) (re, im part) {
	cosine, _ := trig.Cos(arg)
	sine, _ := trig.Sin(arg)
	across, _ := span.Mul(abs, cosine)
	up, _ := span.Mul(abs, sine)
	return middle(across), middle(up)
}

// around is the ball of all that is at most far away from numbers with these parts.
func around(re, im part, far dyad.Num) api.Ball {
	rad, _ := dyad.Round(added(added(re.half, im.half), far), api.Up)
	out, _ := ball.Of(complex(re.mid, im.mid), rad) // an infinite radius makes it the plane
	return out
}

// checked tells what is wrong with a magnitude and an argument.
func checked(abs, arg api.Interval) api.Errno {
	ends := []float64{abs.Lo, abs.Hi, arg.Lo, arg.Hi}
	switch {
	case slices.ContainsFunc(ends, math.IsNaN):
		return api.ErrNaN
	case abs.Lo < 0, abs.Lo > abs.Hi, arg.Lo > arg.Hi:
		return api.ErrDom
	case slices.ContainsFunc(ends, func(f float64) bool { return math.IsInf(f, 0) }):
		return api.ErrInf
	}
	return api.OK
}
