package span

import (
	"math/bits"

	"cusp/dyad"
	"cusp/ieee"
)

// maxPower is the greatest n of Pow: a float's 53 binary digits make at most 53 * 1024 of its power, fewer than dyad.MaxBits.
const maxPower = 1024

// power is f to the n, rounded once. Of an infinity below 0 only odd powers are asked for.
func power(f float64, n, mode int) float64 {
	m, e, neg, finite := ieee.Split(f)
	switch {
	case n == 0:
		return 1
	case !finite:
		return f
	}
	// The power of two stays aside till the end: times n it may go beyond dyad.MaxExp. Where it does, that limit rounds alike: the digits alone come to at least 1 and less than 2^54272, so with it to an infinity, or to less than half of the least float.
	whole, _ := dyad.Make(neg, []uint32{uint32(m), uint32(m >> 32)}, 0)
	shift := max(-dyad.MaxExp, min(e*n, dyad.MaxExp))
	exact, _ := dyad.Shift(multiplied(whole, n), shift)
	rounded, _ := dyad.Round(exact, mode)
	return rounded
}

// multiplied is a to the n, exactly: by squares.
func multiplied(a dyad.Num, n int) dyad.Num {
	out := dyad.Whole(1)
	for place := bits.Len(uint(n)) - 1; place >= 0; place-- {
		out, _ = dyad.Mul(out, out)
		if n>>place&1 == 1 {
			out, _ = dyad.Mul(out, a)
		}
	}
	return out
}
