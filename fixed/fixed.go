// Package fixed holds numbers that are not below 0 between bounds with a fixed count of binary places, for the layers that find a number's least interval by more and more of its digits.
package fixed

import (
	"math"

	"cusp/api"
	"cusp/natural"
)

const (
	floatBits   = 53   // binary digits of a float
	floatPlaces = 1074 // binary places of one
)

// someBits settle nearly every number; where they don't, twice as many are taken.
const someBits = 128

// Bounds hold a number: it is not below Lo times 2^-Places, and not above Hi times that.
type Bounds struct {
	Lo, Hi []uint32
	Places int
}

// Whole holds a whole number alone.
func Whole(n uint64, places int) Bounds {
	m := natural.Left(natural.Of(n), places)
	return Bounds{Lo: m, Hi: m, Places: places}
}

// Short holds a number that so many units of the last place fall short of, by at most lost of them.
func Short(units []uint32, lost uint64, places int) Bounds {
	return Bounds{Lo: units, Hi: natural.Add(units, natural.Of(lost)), Places: places}
}

// The numbers that Plus, Minus and Over take have as many places.

func (b Bounds) Plus(c Bounds) Bounds {
	return Bounds{Lo: natural.Add(b.Lo, c.Lo), Hi: natural.Add(b.Hi, c.Hi), Places: b.Places}
}

// Minus is b less c, that is not above it.
func (b Bounds) Minus(c Bounds) Bounds {
	return Bounds{Lo: less(b.Lo, c.Hi), Hi: less(b.Hi, c.Lo), Places: b.Places}
}

// less is a - b, or 0, if that is below 0: no number that is held is.
func less(a, b []uint32) []uint32 {
	if natural.Cmp(a, b) < 0 {
		return nil
	}
	return natural.Sub(a, b)
}

func (b Bounds) Times(n uint64) Bounds { return b.TimesLong(natural.Of(n)) }

// TimesLong is b times a whole number of any length.
func (b Bounds) TimesLong(m []uint32) Bounds {
	return Bounds{Lo: natural.Mul(b.Lo, m), Hi: natural.Mul(b.Hi, m), Places: b.Places}
}

// Over is b over c, none of which is 0.
func (b Bounds) Over(c Bounds) Bounds {
	lo, _ := natural.Quo(natural.Left(b.Lo, b.Places), c.Hi)
	hi, _ := natural.Quo(natural.Left(b.Hi, b.Places), c.Lo)
	return Bounds{Lo: lo, Hi: natural.Add(hi, natural.Of(1)), Places: b.Places}
}

func (b Bounds) Halved() Bounds { return Bounds{Lo: b.Lo, Hi: b.Hi, Places: b.Places + 1} }

// Cut holds the number with so many places, no more than it had.
func (b Bounds) Cut(places int) Bounds {
	drop := b.Places - places
	return Bounds{Lo: natural.Right(b.Lo, drop), Hi: natural.Add(natural.Right(b.Hi, drop), natural.Of(1)), Places: places}
}

// Tight is the least interval that holds the number, that is no fraction and so lies between two floats; and whether that is settled: between the same two lie both bounds.
func (b Bounds) Tight() (api.Interval, bool) {
	m, drop := highest(b.Lo, b.Places)
	n, dropHi := highest(b.Hi, b.Places)
	e := drop - b.Places
	return api.Interval{Lo: math.Ldexp(float64(m), e), Hi: math.Ldexp(float64(m+1), e)}, m == n && drop == dropHi
}

// highest are the first digits of a number, as many as a float has, and how many others follow.
func highest(m []uint32, places int) (uint64, int) {
	drop := max(0, natural.Length(m)-floatBits, places-floatPlaces)
	return natural.Word(natural.Right(m, drop)), drop
}

// Least is the least interval that holds a number that is no fraction: the more binary digits more is asked for, the nearer to one another are the bounds that it tells, and enough of them settle every such number.
func Least(more func(bits int) Bounds) api.Interval {
	for bits := someBits; ; bits *= 2 {
		if s, settled := more(bits).Tight(); settled {
			return s
		}
	}
}
