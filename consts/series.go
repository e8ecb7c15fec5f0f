package consts

import (
	"cusp/fixed"
	"cusp/natural"
)

// near holds a constant between bounds: the more places, the nearer to one another these are.
func near(kind, places int) fixed.Bounds {
	switch kind {
	case HalfPi:
		return pi(places).Halved()
	case TwoPi:
		return pi(places).Times(2)
	case E:
		return euler(places)
	case Ln2:
		return artanh(3, places).Times(2)
	case Ln10: // 2 * 2 * 2 * 5/4
		return artanh(3, places).Times(6).Plus(artanh(9, places).Times(2))
	case Sqrt2:
		return root(2, places)
	case Golden:
		return root(5, places).Plus(fixed.Whole(1, places)).Halved()
	}
	return pi(places)
}

// pi is by Machin's formula.
func pi(places int) fixed.Bounds {
	return arctan(5, places).Times(16).Minus(arctan(239, places).Times(4))
}

// arctan is the arctangent of 1/n.
func arctan(n uint32, places int) fixed.Bounds {
	even, odd := series(n, places)
	return even.Minus(odd)
}

// artanh is half of the logarithm of (n+1)/(n-1).
func artanh(n uint32, places int) fixed.Bounds {
	even, odd := series(n, places)
	return even.Plus(odd)
}

// series are the sums of 1/n, 1/(5 n^5), 1/(9 n^9), .. and of 1/(3 n^3), 1/(7 n^7), ..; n is from 3 to 2^16 - 1.
func series(n uint32, places int) (fixed.Bounds, fixed.Bounds) {
	var even, odd []uint32
	power, _ := natural.QuoDigit(natural.Left(natural.Of(1), places), n)
	count := uint32(0)
	for ; len(power) > 0; count++ {
		term, _ := natural.QuoDigit(power, 2*count+1)
		if count%2 == 0 {
			even = natural.Add(even, term)
		} else {
			odd = natural.Add(odd, term)
		}
		power, _ = natural.QuoDigit(power, n*n)
	}
	return short(even, count, places), short(odd, count, places)
}

// euler is the sum of 1/0!, 1/1!, 1/2!, ..
func euler(places int) fixed.Bounds {
	var sum []uint32
	term := natural.Left(natural.Of(1), places)
	count := uint32(0)
	for len(term) > 0 {
		sum = natural.Add(sum, term)
		count++
		term, _ = natural.QuoDigit(term, count)
	}
	return short(sum, count, places)
}

// short holds the sum of a series of which some terms, at most count, were cut to whole numbers and added.
func short(sum []uint32, count uint32, places int) fixed.Bounds {
	// Each term is cut once: a whole number over others, one after the other, each cut, is it over their product, cut. What was left out begins below 1 and falls to less than half from term to term, and so comes to less than 2.
	return fixed.Short(sum, uint64(count)+2, places)
}

// root is the square root of n, that is no square.
func root(n uint64, places int) fixed.Bounds {
	lo, _ := natural.Root(natural.Left(natural.Of(n), 2*places))
	return fixed.Short(lo, 1, places)
}
