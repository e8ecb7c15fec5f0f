// Package ieee is layer 1: float64 by its bits: see shared/doc/01-ieee.md.
package ieee

import (
	"math"
	"math/bits"

	"cusp/api"
)

// Classes of floats.
const (
	NaN = iota + 1
	Inf
	Zero
	Small // not 0, below the least normal one
	Normal
)

// How IEEE 754 lays a float64: the sign, 11 bits of exponent, 52 of mantissa.
const (
	fieldWidth  = 52
	signBit     = uint64(1) << 63
	leastNormal = uint64(1) << fieldWidth
	infinite    = uint64(0x7FF) << fieldWidth
	leastPlace  = -1074 // the place of the last bit of the least floats
)

// Class is a float's class, and whether its sign is set.
func Class(f float64) (int, bool) {
	b, neg := body(f), math.Signbit(f)
	switch {
	case b > infinite:
		return NaN, false
	case b == infinite:
		return Inf, neg
	case b == 0:
		return Zero, neg
	case b < leastNormal:
		return Small, neg
	}
	return Normal, neg
}

// Same tells whether two floats are the same, bit by bit, or both NaN.
func Same(a, b float64) bool {
	return math.Float64bits(a) == math.Float64bits(b) || a != a && b != b
}

// Next is the least float above.
func Next(f float64) float64 {
	b := math.Float64bits(f)
	switch {
	case f != f || b == infinite:
		return f
	case f == 0:
		return math.SmallestNonzeroFloat64
	case b&signBit != 0:
		return math.Float64frombits(b - 1)
	}
	return math.Float64frombits(b + 1)
}

// Prev is the greatest float below.
func Prev(f float64) float64 { return -Next(-f) }

// Unit is the value of the last bit.
func Unit(f float64) float64 {
	switch class, _ := Class(f); class {
	case NaN:
		return f
	case Inf:
		return math.Inf(1)
	}
	return Make(false, 1, lastPlace(f), api.Near)
}

// Split is a finite float's magnitude as m times 2 to the e, and whether its sign is set.
func Split(f float64) (uint64, int, bool, bool) {
	class, neg := Class(f)
	m := body(f) & (leastNormal - 1)
	switch class {
	case NaN, Inf:
		return 0, 0, false, false
	case Zero:
		return 0, 0, neg, true
	case Normal:
		m |= leastNormal
	}
	spare := bits.TrailingZeros64(m)
	return m >> spare, lastPlace(f) + spare, neg, true
}

// Make is m times 2 to the e, rounded.
func Make(neg bool, m uint64, e int, mode int) float64 {
	var way int
	switch {
	case mode == api.Near:
		way = nearest
	case mode == api.Down && neg, mode == api.Up && !neg:
		way = outward
	case mode == api.Down, mode == api.Up:
		way = inward
	default:
		return math.NaN()
	}
	b := uint64(0)
	if m != 0 {
		b = roundBody(m, e, way)
	}
	if neg {
		b |= signBit
	}
	return math.Float64frombits(b)
}

// Order is a number that rises as floats do.
func Order(f float64) int64 {
	switch {
	case f != f:
		return math.MaxInt64
	case math.Signbit(f):
		return -1 - int64(body(f))
	}
	return int64(body(f))
}

// Apart is how many steps of Next lead from a to b.
func Apart(a, b float64) (uint64, bool) {
	if !(a <= b) { // a NaN is neither below nor above
		return 0, false
	}
	// From end to end it is more than an int64 holds: the difference is right modulo 2^64.
	return uint64(steps(b)) - uint64(steps(a)), true
}

// With is a with b's sign.
func With(a, b float64) float64 {
	switch {
	case a != a:
		return a
	case b != b:
		return math.Abs(a)
	}
	return math.Copysign(a, b)
}

// body is a float's bits without the sign: it rises as the magnitude does.
func body(f float64) uint64 { return math.Float64bits(f) &^ signBit }

// steps is how many times Next leads from 0 to f, less than 0 where it leads back: unlike in Order, both noughts stand at one place.
func steps(f float64) int64 {
	if math.Signbit(f) {
		return -int64(body(f))
	}
	return int64(body(f))
}

// lastPlace is the place of a finite float's last bit. Floats below 2^-1022 have the exponent field 0, yet the places of those with 1.
func lastPlace(f float64) int {
	return leastPlace - 1 + max(1, int(body(f)>>fieldWidth))
}
