package decim

import (
	"strings"

	"cusp/api"
	"cusp/dyad"
	"cusp/ieee"
)

// mostDigits: the nearest decimal with so many digits is read as the float, whatever float it is.
const mostDigits = 17

// shortest are the digits of the shortest decimal that is read as f, a finite float above 0, and what the first one is worth: 10^x.
func shortest(f float64) (string, int) {
	a := exact(f)
	x := worth(a)
	places := mostDigits - 1 - x
	digits := wholeText(ofWord(fewest(f, a, tenTo(places))))
	return strings.TrimRight(digits, "0"), len(digits) - 1 - places
}

// fewest is, of the whole numbers that are read as f if the scale is taken away from them, the one with the most noughts at its end, of those the nearest to a, f's value. The scale makes mostDigits digits of a.
func fewest(f float64, a dyad.Num, s scale) uint64 {
	least, most := readAs(f, s)
	n, is := s.floor(shifted(a, 1)) // twice a: so the half of the last digit is seen
	twice := word(n)
	unit := word(power(10, mostDigits-1))
	low := twice / 2 / unit * unit
	for unit > 1 && low < least && low+unit > most {
		unit /= 10
		low = twice / 2 / unit * unit
	}
	far := twice - 2*low
	above := far > unit || far == unit && (!is || low/unit%2 == 1) // the even one of two as near
	if low < least || above && low+unit <= most {
		return low + unit
	}
	return low
}

// readAs are the least and the greatest whole number that are read as f if the scale is taken away from them.
func readAs(f float64, s scale) (uint64, uint64) {
	a := exact(f)
	low := shifted(added(exact(ieee.Prev(f)), a), -1)
	high := added(a, shifted(exact(ieee.Unit(f)), -1)) // not by Next: above the greatest float stands the infinity
	from, is := s.floor(low)
	least := word(from)
	if !is || !isReadAs(low, f) {
		least++
	}
	to, is := s.floor(high)
	most := word(to)
	if is && !isReadAs(high, f) {
		most--
	}
	return least, most
}

// isReadAs tells whether a, in the middle between two floats, goes to f.
func isReadAs(a dyad.Num, f float64) bool {
	near, _ := dyad.Round(a, api.Near)
	return near == f
}
