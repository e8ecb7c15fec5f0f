package trig

import (
	"math"

	"cusp/fixed"
	"cusp/ieee"
	"cusp/natural"
)

// someBits settle nearly always how many quarter turns there are; where they don't, twice as many are taken.
const someBits = 128

// Whole numbers of quarter turns, below 0 too, are told modulo 2^64: more of them is not needed, but to find a rest.

// floor is the greatest whole number of quarter turns that is not above x.
func floor(x float64) uint64 {
	n := natural.Word(natural.Right(eighths(x), 1))
	if x < 0 {
		return ^n // -1 - n: no float but 0 is a whole number of them
	}
	return n
}

// eighths is how many whole eighth turns the magnitude of x has.
func eighths(x float64) []uint32 {
	if math.Abs(x) <= math.Pi/4 { // as a float, the greatest one below an eighth turn
		return nil
	}
	// No float but 0 is a whole number of them, so enough places settle it.
	for places := someBits; ; places *= 2 {
		if n, settled := eighthsAt(x, places); settled {
			return n
		}
	}
}

// eighthsAt is that of an x over 1/2, by pi with so many places and as many more as x has digits ahead of its point; and whether it is settled, both bounds of pi having the same answer. There are at least 53 places: x has no more.
func eighthsAt(x float64, places int) ([]uint32, bool) {
	m, e, _, _ := ieee.Split(x)
	size := natural.Of(m)
	pi := fixed.Pi(places + max(0, natural.Length(size)+e))
	four := natural.Left(size, e+2+pi.Places)
	least, _ := natural.Quo(four, pi.Hi)
	most, _ := natural.Quo(four, pi.Lo)
	return least, natural.Cmp(least, most) == 0
}

// turn is a finite float as the nearest whole number of quarter turns, and the rest.
type turn struct {
	m     uint64 // the magnitude is m times 2^e
	e     int
	neg   bool
	whole []uint32 // the quarter turns nearest to the magnitude
	short bool     // whether the magnitude falls short of them
}

func turnOf(x float64) turn {
	m, e, neg, _ := ieee.Split(x)
	n := eighths(x)
	whole := natural.Right(natural.Add(n, natural.Of(1)), 1)
	return turn{m: m, e: e, neg: neg, whole: whole, short: natural.Word(n)%2 == 1}
}

// quarters is the nearest whole number of quarter turns.
func (t turn) quarters() uint64 {
	if t.neg {
		return -natural.Word(t.whole)
	}
	return natural.Word(t.whole)
}

// below tells whether the rest is below 0.
func (t turn) below() bool { return t.neg != t.short }

// rest is the rest's magnitude. It is never 0, and over half of so many binary digits are told of it, however near to 0 it is: its sine's bounds are not 0, either.
func (t turn) rest(bits int) fixed.Bounds {
	for places := bits; ; places *= 2 {
		if b := t.restAt(places); natural.Length(b.Lo) > bits/2 {
			return b
		}
	}
}

// restAt is that to so many places.
func (t turn) restAt(places int) fixed.Bounds {
	// Each binary digit of the quarter turns makes twice as much of what pi is off by; and x is told exactly.
	fine := max(places+natural.Length(t.whole), -t.e)
	size := fixed.Short(natural.Left(natural.Of(t.m), t.e+fine), 0, fine)
	if len(t.whole) == 0 {
		return size.Cut(places)
	}
	whole := fixed.Pi(fine - 1).Halved().TimesLong(t.whole)
	if t.short {
		return whole.Minus(size).Cut(places)
	}
	return size.Minus(whole).Cut(places)
}
