package expo

import (
	"cusp/api"
	"cusp/dyad"
	"cusp/ieee"
	"cusp/span"
)

// bounds hold a number: it is not below lo, and not above hi.
type bounds struct{ lo, hi dyad.Num }

// The Nums of this package are far from the limits of dyad, and nothing is divided by nought: no error can be.

func exactly(n dyad.Num) bounds { return bounds{lo: n, hi: n} }

func (b bounds) plus(c bounds) bounds { return bounds{lo: sum(b.lo, c.lo), hi: sum(b.hi, c.hi)} }

func (b bounds) minus(c bounds) bounds {
	return b.plus(bounds{lo: dyad.Neg(c.hi), hi: dyad.Neg(c.lo)})
}

func (b bounds) shifted(k int) bounds { return bounds{lo: shift(b.lo, k), hi: shift(b.hi, k)} }

// times is the number times n, that is not below 0.
func (b bounds) times(n dyad.Num) bounds {
	return bounds{lo: product(b.lo, n), hi: product(b.hi, n)}
}

// squared is the square of a number above 0, to so many binary digits.
func (b bounds) squared(bits int) bounds {
	return bounds{lo: cut(product(b.lo, b.lo), bits).lo, hi: cut(product(b.hi, b.hi), bits).hi}
}

// inverse is 1 over a number above 0, to so many binary digits.
func (b bounds) inverse(bits int) bounds {
	one := dyad.Whole(1)
	return bounds{lo: quotient(one, b.hi, bits+dyad.Top(b.hi)).lo, hi: quotient(one, b.lo, bits+dyad.Top(b.lo)).hi}
}

// tight is the least interval that holds the number, and whether that is settled: the number is told exactly, or no float lies between the bounds.
func (b bounds) tight() (api.Interval, bool) {
	lo, _ := dyad.Round(b.lo, api.Down)
	hi, _ := dyad.Round(b.hi, api.Up)
	s, _ := span.Of(lo, hi)
	return s, dyad.Cmp(b.lo, b.hi) == 0 || ieee.Next(lo) == hi
}

func sum(a, b dyad.Num) dyad.Num {
	n, _ := dyad.Add(a, b)
	return n
}

func product(a, b dyad.Num) dyad.Num {
	n, _ := dyad.Mul(a, b)
	return n
}

func shift(a dyad.Num, k int) dyad.Num {
	n, _ := dyad.Shift(a, k)
	return n
}

// cut is a number to so many binary digits.
func cut(a dyad.Num, bits int) bounds {
	place := bits - dyad.Top(a)
	n, exact, _ := dyad.Floor(a, place)
	return fromBelow(n, place, exact)
}

// quotient is a over b, to so many binary places.
func quotient(a, b dyad.Num, place int) bounds {
	n, exact, _ := dyad.Quo(a, b, place)
	return fromBelow(n, place, exact)
}

// fromBelow hold a number that was cut to n at a place, or is n, if that is exact.
func fromBelow(n dyad.Num, place int, exact bool) bounds {
	if exact {
		return exactly(n)
	}
	return bounds{lo: n, hi: sum(n, shift(dyad.Whole(1), -place))}
}
