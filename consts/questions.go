package consts

import (
	"slices"

	"cusp/fixed"
	"cusp/natural"
)

// The functions that follow ask something about a number, that is no fraction: and so never on an edge between two answers. They tell, too, whether that is settled, both bounds having the same answer.

// floor is the whole part of the number times unit.
func floor(b fixed.Bounds, unit []uint32) ([]uint32, bool) {
	lo := natural.Right(natural.Mul(b.Lo, unit), b.Places)
	hi := natural.Right(natural.Mul(b.Hi, unit), b.Places)
	return lo, natural.Cmp(lo, hi) == 0
}

// against is 1, if the number is above a fraction, and -1, if it is below.
func against(b fixed.Bounds, f fraction) (int, bool) {
	p, q := natural.Left(natural.Of(f.p), b.Places), natural.Of(f.q)
	switch {
	case natural.Cmp(natural.Mul(b.Lo, q), p) >= 0:
		return 1, true
	case natural.Cmp(natural.Mul(b.Hi, q), p) <= 0:
		return -1, true
	}
	return 0, false
}

// decimal is a whole number in decimal, with a point ahead of its last n digits and at least one digit ahead of that.
func decimal(m []uint32, n int) string {
	var text []byte // from its end on
	for count := 0; count <= n || len(m) > 0; count++ {
		if count == n && n > 0 {
			text = append(text, '.')
		}
		var digit uint32
		m, digit = natural.QuoDigit(m, 10)
		text = append(text, '0'+byte(digit))
	}
	slices.Reverse(text)
	return string(text)
}
