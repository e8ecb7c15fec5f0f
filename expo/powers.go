package expo

import (
	"math"
	"strings"

	"cusp/consts"
	"cusp/dyad"
)

// far is from where on, to either side, each function lies beyond all finite floats, or between 0 or -1 and a neighbour: so it answers for all that is farther what it does there.
const far = 1100

// closeness is how many noughts the argument of the series has behind its binary point: each term gains as many digits, each halving costs a square.
const closeness = 8

// mostDigits is how many decimal digits of a constant consts tells: over 3000 binary ones, far more than any float was seen to need.
const mostDigits = 1000

// powers are e to the x, and e to the -x.
func powers(x float64, bits int) (bounds, bounds) {
	size, _ := dyad.Of(min(math.Abs(x), far))
	great := exponential(size, bits)
	little := great.inverse(bits)
	if x < 0 {
		return little, great
	}
	return great, little
}

// powerOfTwo is 2 to the x: to the whole number below it, exactly, times e to the logarithm of 2 times the rest.
func powerOfTwo(x float64, bits int) bounds {
	x = max(-far, min(x, far))
	whole := math.Floor(x)
	power := exactly(dyad.Whole(1))
	if whole != x {
		n, _ := dyad.Of(x)
		rest := sum(n, dyad.Whole(-int(whole)))
		exponent := logOfTwo(bits).times(rest)
		power = bounds{lo: exponential(exponent.lo, bits).lo, hi: exponential(exponent.hi, bits).hi}
	}
	return power.shifted(int(whole))
}

// exponential is e to the x, that is not below 0. It is the square of e to the half of x, and so on.
func exponential(x dyad.Num, bits int) bounds {
	halvings := max(0, dyad.Top(x)+closeness)
	power := series(shift(x, -halvings), bits)
	for range halvings {
		power = power.squared(bits)
	}
	return power
}

// series is the sum of 1, x, x^2 / 2, x^3 / 6, .., for x from 0 to 2^-closeness, to so many binary places.
func series(x dyad.Num, places int) bounds {
	total, term, count := dyad.Whole(1), dyad.Whole(1), 0
	for dyad.Sign(term) > 0 {
		count++
		term = quotient(product(term, x), dyad.Whole(count), places).lo
		total = sum(total, term)
	}
	// A term is cut, and made of one that was: since each is less than half of the one before, it is less than 2 units of the last place too small. So is the sum of all that follow the last one, which is less than 2 itself.
	return bounds{lo: total, hi: sum(total, shift(dyad.Whole(2*(count+1)), -places))}
}

// logOfTwo is the logarithm of 2, to so many binary places.
func logOfTwo(bits int) bounds {
	n := min(bits/3+1, mostDigits) // a decimal digit is worth more than three binary ones
	text, _ := consts.Digits(consts.Ln2, n)
	ten := dyad.Whole(10)
	units, scale := dyad.Whole(0), dyad.Whole(1)
	for _, digit := range strings.Replace(text, ".", "", 1) {
		units = sum(product(units, ten), dyad.Whole(int(digit-'0')))
	}
	for range n {
		scale = product(scale, ten)
	}
	next := sum(units, dyad.Whole(1))
	return bounds{lo: quotient(units, scale, bits).lo, hi: quotient(next, scale, bits).hi}
}
