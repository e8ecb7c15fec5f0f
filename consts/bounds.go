package consts

import (
	"math"
	"slices"

	"cusp/api"
	"cusp/natural"
)

// floatBits is how many binary digits a float has.
const floatBits = 53

// bounds hold a number above 0: it is not below lo times 2^-places, and not above hi times that.
type bounds struct {
	lo, hi []uint32
	places int
}

// wholeBounds hold a whole number alone.
func wholeBounds(n uint64, places int) bounds {
	m := natural.Left(natural.Of(n), places)
	return bounds{lo: m, hi: m, places: places}
}

// The numbers that plus and minus take have as many places.

func (b bounds) plus(c bounds) bounds {
	return bounds{lo: natural.Add(b.lo, c.lo), hi: natural.Add(b.hi, c.hi), places: b.places}
}

func (b bounds) minus(c bounds) bounds {
	return bounds{lo: natural.Sub(b.lo, c.hi), hi: natural.Sub(b.hi, c.lo), places: b.places}
}

func (b bounds) times(n uint64) bounds {
	m := natural.Of(n)
	return bounds{lo: natural.Mul(b.lo, m), hi: natural.Mul(b.hi, m), places: b.places}
}

func (b bounds) halved() bounds { return bounds{lo: b.lo, hi: b.hi, places: b.places + 1} }

// The functions that follow ask something about the number, that is no fraction: and so never on an edge between two answers. They tell, too, whether that is settled, both bounds having the same answer.

// floor is the whole part of the number times unit.
func (b bounds) floor(unit []uint32) ([]uint32, bool) {
	lo := natural.Right(natural.Mul(b.lo, unit), b.places)
	hi := natural.Right(natural.Mul(b.hi, unit), b.places)
	return lo, natural.Cmp(lo, hi) == 0
}

// tight is the least interval that holds the number: between two floats that are neighbours.
func (b bounds) tight() (api.Interval, bool) {
	m, drop := highest(b.lo)
	n, dropHi := highest(b.hi)
	e := drop - b.places
	return api.Interval{Lo: math.Ldexp(float64(m), e), Hi: math.Ldexp(float64(m+1), e)}, m == n && drop == dropHi
}

// highest are the first digits of a number, as many as a float has, and how many others follow.
func highest(m []uint32) (uint64, int) {
	drop := max(0, natural.Length(m)-floatBits)
	return natural.Word(natural.Right(m, drop)), drop
}

// against is 1, if the number is above a fraction, and -1, if it is below.
func (b bounds) against(f fraction) (int, bool) {
	p, q := natural.Left(natural.Of(f.p), b.places), natural.Of(f.q)
	switch {
	case natural.Cmp(natural.Mul(b.lo, q), p) >= 0:
		return 1, true
	case natural.Cmp(natural.Mul(b.hi, q), p) <= 0:
		return -1, true
	}
	return 0, false
}

// decimal is a whole number in decimal, with a point ahead of its last n digits and at least one digit ahead of that.
func decimal(m []uint32, n int) string {
	var text []byte // from its end on
	for count := 0; count <= n || len(m) > 0; count++ {
		if count == n && n > 0 {
			text = append(text, '.')
		}
		var digit uint32
		m, digit = natural.QuoDigit(m, 10)
		text = append(text, '0'+byte(digit))
	}
	slices.Reverse(text)
	return string(text)
}
