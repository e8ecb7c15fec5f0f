package span

import (
	"math"

	"cusp/api"
	"cusp/dyad"
	"cusp/round"
)

// The functions of this file take intervals that may be.

// mayBe tells whether all of these intervals may be.
func mayBe(list ...api.Interval) bool {
	for _, s := range list {
		if !Valid(s) {
			return false
		}
	}
	return true
}

func minusNought(f float64) bool { return f == 0 && math.Signbit(f) }

// between is the interval with these ends, noughts made +0.
func between(lo, hi float64) api.Interval {
	return api.Interval{Lo: plusNought(lo), Hi: plusNought(hi)}
}

func plusNought(f float64) float64 {
	if f == 0 {
		return 0
	}
	return f
}

func turned(a api.Interval) api.Interval { return between(-a.Hi, -a.Lo) }

func magnitudes(a api.Interval) api.Interval {
	switch {
	case a.Lo >= 0:
		return a
	case a.Hi <= 0:
		return turned(a)
	}
	return api.Interval{Lo: 0, Hi: max(-a.Lo, a.Hi)}
}

// added meets no infinities of unlike signs: Lo is never +Inf, Hi never -Inf.
func added(a, b api.Interval) api.Interval {
	return between(round.Add(a.Lo, b.Lo, api.Down), round.Add(a.Hi, b.Hi, api.Up))
}

// pairs are the four pairs of an end of one interval and one of another.
type pairs [4][2]float64

func pairsOf(a, b api.Interval) pairs {
	return pairs{{a.Lo, b.Lo}, {a.Lo, b.Hi}, {a.Hi, b.Lo}, {a.Hi, b.Hi}}
}

// spread goes from the least to the greatest that an operation makes of a pair: products and quotients rise or fall with each number by itself, so that none lies beyond those of the ends.
func (p pairs) spread(operation func(x, y float64, mode int) float64) api.Interval {
	lo, hi := math.Inf(1), math.Inf(-1)
	for _, ends := range p {
		lo = min(lo, orNought(operation(ends[0], ends[1], api.Down)))
		hi = max(hi, orNought(operation(ends[0], ends[1], api.Up)))
	}
	return between(lo, hi)
}

// orNought has 0 in place of a NaN. That comes of 0 times an end that is none, and 0 times any number is 0; or of two such ends divided, and finite numbers over ever greater ones come as near to 0 as one likes.
func orNought(f float64) float64 {
	if f != f {
		return 0
	}
	return f
}

// halfSum is half of the exact sum of two finite floats, rounded once.
func halfSum(a, b float64) float64 {
	// No error can be: sums of two floats are far from the limits of dyad.
	m, _ := dyad.Of(a)
	n, _ := dyad.Of(b)
	sum, _ := dyad.Add(m, n)
	half, _ := dyad.Shift(sum, -1)
	f, _ := dyad.Round(half, api.Near)
	return f
}
