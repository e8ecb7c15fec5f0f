package dyad

import (
	"math"

	"cusp/api"
	"cusp/ieee"
	"cusp/natural"
)

// A float has 53 binary digits: 64 of a number, the last one set if more follow, round as the number does.
const enough = 64

// finePlace is where roots are cut ahead of their sum: two parts of 2^-finePlace are half of what floats are apart at the least.
const finePlace = 1076

// Round is a, rounded once.
func Round(a Num, mode int) (float64, api.Errno) {
	if !mayBe(a) || !isMode(mode) {
		return 0, api.ErrArg
	}
	return rounded(a, mode), api.OK
}

// Ratio is a / b, rounded once.
func Ratio(a, b Num, mode int) (float64, api.Errno) {
	switch {
	case !mayBe(a, b) || !isMode(mode):
		return 0, api.ErrArg
	case len(b.M) == 0:
		return 0, api.ErrZero
	case len(a.M) == 0:
		return 0, api.OK
	}
	k := max(0, enough+natural.Length(b.M)-natural.Length(a.M))
	q, exact := natural.Quo(natural.Left(a.M, k), b.M)
	return toFloat(a.Neg != b.Neg, q, a.E-b.E-k, exact, mode), api.OK
}

// Sqrt is the square root of a, rounded once.
func Sqrt(a Num, mode int) (float64, api.Errno) {
	switch {
	case !mayBe(a) || !isMode(mode):
		return 0, api.ErrArg
	case a.Neg:
		return 0, api.ErrDom
	}
	k := max(0, 2*enough-natural.Length(a.M))
	if (a.E-k)%2 != 0 {
		k++
	}
	r, exact := natural.Root(natural.Left(a.M, k))
	return toFloat(false, r, (a.E-k)/2, exact, mode), api.OK
}

// Up is the least float that is not below c and the square roots of p and q, all added.
func Up(c, p, q Num) (float64, api.Errno) {
	switch {
	case !mayBe(c, p, q):
		return 0, api.ErrArg
	case p.Neg, q.Neg:
		return 0, api.ErrDom
	}
	rootP, exactP := rootAt(p, finePlace)
	rootQ, exactQ := rootAt(q, finePlace)
	low := sum(c, normal(false, natural.Add(rootP, rootQ), -finePlace))
	f := rounded(low, api.Up)
	if exactP && exactQ || math.IsInf(f, 0) {
		return f, api.OK
	}
	// The sum is not below low, and is below high: at most one float, f, lies between.
	high := sum(low, Num{M: natural.Of(1), E: 1 - finePlace})
	if ieee.Same(f, rounded(high, api.Up)) {
		return f, api.OK
	}
	return settled(f, c, p, q), api.OK
}

// settled is the sum of c and the roots of p and q rounded up, if that is f or the float after it.
func settled(f float64, c, p, q Num) float64 {
	value, _ := Of(f) // f is not below the sum of c and what was cut, so not below c
	switch far := compareRoots(p, q, sum(value, negated(c))); {
	case far > 0:
		return ieee.Next(f)
	case far == 0 && f == 0:
		return 0 // f was rounded from below, and may be -0
	}
	return f
}

// compareRoots holds the sum of the square roots of p and q against d, that is not below nought: exactly, by squaring twice.
func compareRoots(p, q, d Num) int {
	// p + 2 * root(p*q) + q against d*d
	rest := sum(product(d, d), negated(sum(p, q)))
	if rest.Neg {
		return 1
	}
	return compare(product(Whole(4), product(p, q)), product(rest, rest))
}

func isMode(mode int) bool { return mode == api.Down || mode == api.Near || mode == api.Up }

func rounded(a Num, mode int) float64 { return toFloat(a.Neg, a.M, a.E, true, mode) }

// toFloat is m times 2 to the e, rounded; if that is not exact, it stands for more than m, but less than m + 1, and m has at least 64 binary digits.
func toFloat(neg bool, m []uint32, e int, exact bool, mode int) float64 {
	drop := max(0, natural.Length(m)-enough)
	word := natural.Word(natural.Right(m, drop))
	if !exact || drop > 0 && natural.Trailing(m) < drop {
		word |= 1
	}
	return ieee.Make(neg, word, e+drop, mode)
}
