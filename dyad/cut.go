package dyad

import (
	"cusp/api"
	"cusp/natural"
)

// Floor is the greatest multiple of 2 to the -place that is not above a, and whether it is a.
func Floor(a Num, place int) (Num, bool, api.Errno) {
	if !mayBe(a) || !isPlace(place) {
		return Num{}, false, api.ErrArg
	}
	m, exact := scaled(a, place)
	return lower(a.Neg, m, place, exact)
}

// Quo is the greatest multiple of 2 to the -place that is not above a / b, and whether it is that.
func Quo(a, b Num, place int) (Num, bool, api.Errno) {
	switch {
	case !mayBe(a, b) || !isPlace(place):
		return Num{}, false, api.ErrArg
	case len(b.M) == 0:
		return Num{}, false, api.ErrZero
	}
	m, d, _ := aligned(Num{M: a.M, E: a.E + place}, b)
	q, exact := natural.Quo(m, d)
	return lower(a.Neg != b.Neg, q, place, exact)
}

// Root is the greatest multiple of 2 to the -place that is not above the square root of a, and whether it is that.
func Root(a Num, place int) (Num, bool, api.Errno) {
	switch {
	case !mayBe(a) || !isPlace(place):
		return Num{}, false, api.ErrArg
	case a.Neg:
		return Num{}, false, api.ErrDom
	}
	m, exact := rootAt(a, place)
	return lower(false, m, place, exact)
}

func isPlace(place int) bool { return place >= -MaxBits && place <= MaxBits }

// scaled is the whole part of a's magnitude times 2 to the place, and whether it is all of it.
func scaled(a Num, place int) ([]uint32, bool) {
	k := a.E + place
	if k >= 0 {
		return natural.Left(a.M, k), true
	}
	return natural.Right(a.M, -k), len(a.M) == 0 // M is odd: whatever is cut off is not 0
}

// rootAt is the whole part of a's square root times 2 to the place, and whether it is all of it.
func rootAt(a Num, place int) ([]uint32, bool) {
	square, whole := scaled(a, 2*place)
	m, exact := natural.Root(square)
	return m, whole && exact
}

// lower answers m multiples of 2 to the -place; below nought, where that isn't all, one more.
func lower(neg bool, m []uint32, place int, exact bool) (Num, bool, api.Errno) {
	if neg && !exact {
		m = natural.Add(m, natural.Of(1))
	}
	q, err := bounded(normal(neg, m, -place))
	return q, exact && err == api.OK, err
}
