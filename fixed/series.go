package fixed

import "cusp/natural"

// Pi is by Machin's formula.
func Pi(places int) Bounds {
	return arctan(5, places).Times(16).Minus(arctan(239, places).Times(4))
}

// arctan is the arctangent of 1/n.
func arctan(n uint32, places int) Bounds {
	even, odd := series(n, places)
	return even.Minus(odd)
}

// Artanh is half of the logarithm of (n+1)/(n-1), for n from 3 to 2^16 - 1.
func Artanh(n uint32, places int) Bounds {
	even, odd := series(n, places)
	return even.Plus(odd)
}

// series are the sums of 1/n, 1/(5 n^5), 1/(9 n^9), .. and of 1/(3 n^3), 1/(7 n^7), ..; n is from 3 to 2^16 - 1.
func series(n uint32, places int) (Bounds, Bounds) {
	var even, odd []uint32
	power, _ := natural.QuoDigit(natural.Left(natural.Of(1), places), n)
	count := uint32(0)
	for ; len(power) > 0; count++ {
		term, _ := natural.QuoDigit(power, 2*count+1)
		if count%2 == 0 {
			even = natural.Add(even, term)
		} else {
			odd = natural.Add(odd, term)
		}
		power, _ = natural.QuoDigit(power, n*n)
	}
	return Summed(even, count, places), Summed(odd, count, places)
}

// Summed holds the sum of a series of which some terms, at most count, were added: whole numbers over others, one after the other, each quotient cut; the first term that was left out is below 1, and each that follows is less than half of the one before.
func Summed(sum []uint32, count uint32, places int) Bounds {
	// A whole number over others, each quotient cut, is it over their product, cut: so each term is cut once. What was left out comes to less than 2.
	return Short(sum, uint64(count)+2, places)
}
