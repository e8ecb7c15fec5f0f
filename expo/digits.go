package expo

import (
	"math"

	"cusp/api"
	"cusp/dyad"
	"cusp/ieee"
	"cusp/span"
)

// digits tells between which bounds a number lies: the more binary digits it is asked for, the nearer to one another these are.
type digits func(bits int) bounds

// small is how far from 0 a float is at least that needs digits: of one that is nearer each function lies between 1, or that float, and a neighbour.
const small = 0x1p-54

// someBits settle nearly every float; where they don't, twice as many are taken.
const someBits = 128

// answer is what is asked of x: first, if x is small, and else what more tells.
func answer(x float64, first api.Interval, more digits) (api.Interval, api.Errno) {
	if _, err := dyad.Of(x); err != api.OK { // its errors are those that are asked for here
		return api.Interval{}, err
	}
	if math.Abs(x) < small {
		return first, api.OK
	}
	return tight(more), api.OK
}

// beside is the least interval that holds a number between f and a neighbour: the one above, if off is above 0, the one below, if off is below 0. If off is 0, the number is f.
func beside(f, off float64) api.Interval {
	lo, hi := f, f
	switch {
	case off > 0:
		hi = ieee.Next(f)
	case off < 0:
		lo = ieee.Prev(f)
	}
	s, _ := span.Of(lo, hi)
	return s
}

// tight is the least interval that holds a number. That is told exactly, or it is no fraction: then neither a bound nor a float is it, and with enough digits no float lies between the bounds.
func tight(more digits) api.Interval {
	for bits := someBits; ; bits *= 2 {
		if s, settled := more(bits).tight(); settled {
			return s
		}
	}
}
