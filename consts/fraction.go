package consts

import (
	"cusp/fixed"
	"cusp/natural"
)

// fraction is p / q.
type fraction struct{ p, q uint64 }

// between is the fraction with the least denominator of all between two that are neighbours (among those with no greater denominators than theirs), and is neighbour to both.
func between(f, g fraction) fraction { return fraction{p: f.p + g.p, q: f.q + g.q} }

// middle is half of the sum of two fractions. (No p is above 7 * q, for the greatest constant, 2 pi, is below 7; and no q is above 2^30: all fits into a word.)
func middle(f, g fraction) fraction {
	return fraction{p: f.p*g.q + g.p*f.q, q: 2 * f.q * g.q}
}

// best is the fraction nearest to the number of those with a denominator of at most most, and whether that is settled.
func best(b fixed.Bounds, most uint64) (fraction, bool) {
	first, settled := floor(b, natural.Of(1))
	whole := natural.Word(first)
	below, above := fraction{whole, 1}, fraction{whole + 1, 1}
	for settled && below.q+above.q <= most {
		below, above, settled = narrowed(b, below, above, between(below, above))
	}
	// They are neighbours among all with such denominators: no other is nearer.
	side, last := against(b, middle(below, above))
	if side > 0 {
		return above, settled && last
	}
	return below, settled && last
}

// narrowed are the two of three fractions that the number lies between: inner stands between the others.
func narrowed(b fixed.Bounds, below, above, inner fraction) (fraction, fraction, bool) {
	side, settled := against(b, inner)
	if side > 0 {
		return inner, above, settled
	}
	return below, inner, settled
}
