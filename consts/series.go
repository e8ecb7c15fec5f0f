package consts

import (
	"cusp/fixed"
	"cusp/natural"
)

// near holds a constant between bounds: the more places, the nearer to one another these are.
func near(kind, places int) fixed.Bounds {
	switch kind {
	case HalfPi:
		return fixed.Pi(places).Halved()
	case TwoPi:
		return fixed.Pi(places).Times(2)
	case E:
		return euler(places)
	case Ln2:
		return fixed.Artanh(3, places).Times(2)
	case Ln10: // 2 * 2 * 2 * 5/4
		return fixed.Artanh(3, places).Times(6).Plus(fixed.Artanh(9, places).Times(2))
	case Sqrt2:
		return root(2, places)
	case Golden:
		return root(5, places).Plus(fixed.Whole(1, places)).Halved()
	}
	return fixed.Pi(places)
}

// euler is the sum of 1/0!, 1/1!, 1/2!, ..
func euler(places int) fixed.Bounds {
	var sum []uint32
	term := natural.Left(natural.Of(1), places)
	count := uint32(0)
	for len(term) > 0 {
		sum = natural.Add(sum, term)
		count++
		term, _ = natural.QuoDigit(term, count)
	}
	return fixed.Summed(sum, count, places)
}

// root is the square root of n, that is no square.
func root(n uint64, places int) fixed.Bounds {
	lo, _ := natural.Root(natural.Left(natural.Of(n), 2*places))
	return fixed.Short(lo, 1, places)
}
