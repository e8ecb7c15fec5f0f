package loga

import (
	"cusp/api"
	"cusp/fixed"
	"cusp/natural"
	"cusp/span"
)

// split is a number above 0: 2^whole times one near 1, from 3/4 to 3/2. That less 1, over it and 1, is off / sum by its magnitude, and below 0, if below.
type split struct {
	whole    int
	off, sum []uint32
	below    bool
}

func splitOf(n number) split {
	top := natural.Length(n.digits)
	unit := natural.Left(natural.Of(1), top)
	if natural.Cmp(natural.Left(n.digits, 2), natural.Mul(unit, natural.Of(3))) < 0 {
		top--
		unit = natural.Right(unit, 1)
	}
	s := split{whole: top + n.power, sum: natural.Add(n.digits, unit), below: natural.Cmp(n.digits, unit) < 0}
	if s.below {
		s.off = natural.Sub(unit, n.digits)
	} else {
		s.off = natural.Sub(n.digits, unit)
	}
	return s
}

// isPower tells whether the number is a power of two.
func (s split) isPower() bool { return len(s.off) == 0 }

// least is the least interval that holds a logarithm of the number, of which more tells the magnitude. That is 0, of 1, or no fraction.
func (s split) least(more func(bits int) fixed.Bounds) api.Interval {
	if s.whole == 0 && s.isPower() {
		return api.Interval{}
	}
	answer := fixed.Least(more)
	if s.whole < 0 || s.whole == 0 && s.below {
		answer, _ = span.Neg(answer)
	}
	return answer
}

// logarithm is its magnitude, to so many binary digits.
func (s split) logarithm(bits int) fixed.Bounds {
	places := s.places(bits)
	rest := s.rest(places)
	if s.whole == 0 { // of a rest near 0 there may be many places
		return rest
	}
	return s.joined(logOfTwo(places), rest)
}

// halfLogarithm is the half of that.
func (s split) halfLogarithm(bits int) fixed.Bounds { return s.logarithm(bits).Halved() }

// toTwo is the magnitude of the logarithm to the base of two.
func (s split) toTwo(bits int) fixed.Bounds {
	places := s.places(bits)
	return s.joined(fixed.Whole(1, places), s.rest(places).Over(logOfTwo(places)))
}

// places are as many as give so many digits.
func (s split) places(bits int) int {
	if s.whole != 0 { // then no logarithm is near 0
		return bits
	}
	return bits + natural.Length(s.sum) - natural.Length(s.off)
}

// rest is the magnitude of the logarithm of what is near 1.
func (s split) rest(places int) fixed.Bounds { return artanh(s.off, s.sum, places).Times(2) }

// joined is the magnitude of the logarithm of the number, from that of 2 and the rest.
func (s split) joined(two, rest fixed.Bounds) fixed.Bounds {
	all := two.Times(uint64(max(s.whole, -s.whole)))
	if s.whole > 0 && s.below || s.whole < 0 && !s.below {
		return all.Minus(rest)
	}
	return all.Plus(rest)
}

// logOfTwo is the logarithm of 2: as of (3 + 1) / (3 - 1).
func logOfTwo(places int) fixed.Bounds {
	return artanh(natural.Of(1), natural.Of(3), places).Times(2)
}

// artanh is half of the logarithm of (q + p) / (q - p), p / q being at most 1/3: the sum of y, y^3 / 3, y^5 / 5, .., for y = p / q.
func artanh(p, q []uint32, places int) fixed.Bounds {
	power, _ := natural.Quo(natural.Left(p, places), q)
	square := natural.Right(natural.Mul(power, power), places)
	var sum []uint32
	count := uint32(0)
	for ; len(power) > 0; count++ {
		term, _ := natural.QuoDigit(power, 2*count+1)
		sum = natural.Add(sum, term)
		power = natural.Right(natural.Mul(power, square), places)
	}
	// The square is less than 5/3 units of the last place too small, so a power, made of cut ones and cut, less than (5/9 + 1) / (1 - 1/9) = 7/4, and a term less than 2. So is the sum of all that follow the last one: they begin below 7/4, and fall to a ninth from each to the next.
	return fixed.Short(sum, 2*(uint64(count)+1), places)
}
