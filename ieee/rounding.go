package ieee

import (
	"math"
	"math/bits"
)

// Ways of rounding a magnitude: what a mode is once the sign is known.
const (
	inward = iota
	nearest
	outward
)

// Exponents beyond these round as these do: 1 * 2^farAbove is above all finite floats, and what has 64 bits times 2^farBelow is below half the least one.
const (
	farAbove = 1100
	farBelow = -1200
)

// roundBody is m * 2^e (m not 0) rounded to a float with the sign +, as bits.
func roundBody(m uint64, e int, way int) uint64 {
	e = min(max(e, farBelow), farAbove) // ahead of all sums, which might wrap round
	spare := bits.LeadingZeros64(m)
	m, e = m<<spare, e-spare
	place := max(e+63-fieldWidth, leastPlace)
	kept := roundShift(m, place-e, way)
	// The highest bit of kept, where it stands in the field of the exponent, counts 1 there; so does a carry out of the mantissa.
	b := uint64(place-leastPlace)<<fieldWidth + kept
	if b < infinite {
		return b
	}
	if way == inward {
		return math.Float64bits(math.MaxFloat64)
	}
	return infinite
}

// roundShift is m (its highest bit is set) over 2^drop, rounded to a whole number; drop is at least 1.
func roundShift(m uint64, drop int, way int) uint64 {
	if drop > 64 { // less than a half, but not 0: so is 1 over 2^64
		m, drop = 1, 64
	}
	kept := m >> drop
	lost := m - kept<<drop
	half := uint64(1) << (drop - 1)
	up := false
	switch way {
	case nearest:
		up = lost > half || lost == half && kept&1 == 1
	case outward:
		up = lost != 0
	}
	if up {
		kept++
	}
	return kept
}
