package decim

import (
	"math/bits"

	"cusp/api"
	"cusp/dyad"
)

// The calls of dyad that stand in this package have errors only for what is no number, and for numbers longer than those that come of MaxDigits digits, an exponent up to farExponent and a float.

func exact(f float64) dyad.Num {
	n, _ := dyad.Of(f)
	return n
}

func added(a, b dyad.Num) dyad.Num {
	n, _ := dyad.Add(a, b)
	return n
}

func taken(a, b dyad.Num) dyad.Num {
	n, _ := dyad.Sub(a, b)
	return n
}

func multiplied(a, b dyad.Num) dyad.Num {
	n, _ := dyad.Mul(a, b)
	return n
}

// shifted is a times 2^k.
func shifted(a dyad.Num, k int) dyad.Num {
	n, _ := dyad.Shift(a, k)
	return n
}

// ofWord is a word as a number. (dyad.Whole takes an int, which may be too small.)
func ofWord(w uint64) dyad.Num {
	n, _ := dyad.Make(false, []uint32{uint32(w), uint32(w >> 32)}, 0)
	return n
}

// word is a whole number from 0 to 2^64 - 1.
func word(n dyad.Num) uint64 {
	w := uint64(0)
	for i, d := range n.M {
		w |= uint64(d) << (32 * i)
	}
	return w << n.E
}

// power is base to the k, that is not below 0.
func power(base, k int) dyad.Num {
	n, b := dyad.Whole(1), dyad.Whole(base)
	for i := bits.Len(uint(k)) - 1; i >= 0; i-- {
		n = multiplied(n, n)
		if k>>i&1 == 1 {
			n = multiplied(n, b)
		}
	}
	return n
}

// scale is the number over / under. Powers of ten below 1 are no Nums, so both are kept.
type scale struct{ over, under dyad.Num }

func tenTo(k int) scale {
	if k < 0 {
		return scale{dyad.Whole(1), power(10, -k)}
	}
	return scale{power(10, k), dyad.Whole(1)}
}

func twoTo(k int) scale { return scale{shifted(dyad.Whole(1), k), dyad.Whole(1)} }

// floor is the greatest whole number that is not above a times the scale, and whether it is that.
func (s scale) floor(a dyad.Num) (dyad.Num, bool) {
	n, is, _ := dyad.Quo(multiplied(a, s.over), s.under, 0)
	return n, is
}

// isAbove tells whether of the whole numbers low, the floor, and low + 1 the second one is the nearest to a times the scale; of two as near it is the even one.
func (s scale) isAbove(a, low dyad.Num) bool {
	between := added(shifted(low, 1), dyad.Whole(1)) // twice the middle of both
	switch dyad.Cmp(multiplied(shifted(a, 1), s.over), multiplied(between, s.under)) {
	case 1:
		return true
	case 0:
		return low.E == 0 && dyad.Sign(low) != 0 // low is odd: an even one has twos in its power of two
	}
	return false
}

// units is f times 10^places rounded to a whole number, without its sign.
func units(f float64, places, mode int) dyad.Num {
	a, s := exact(f), tenTo(places)
	n, is := s.floor(a)
	if !is && (mode == api.Up || mode == api.Near && s.isAbove(a, n)) {
		n = added(n, dyad.Whole(1))
	}
	return dyad.Abs(n)
}

// worth is what the first digit of a, that is above 0, is worth: 10^x is not above a, and 10^(x+1) is.
func worth(a dyad.Num) int {
	// 1262611 / 2^22 is so near to the logarithm of 2 in base 10 that, as far as floats go, this is the x of the highest bit: a's own or one less.
	x := (dyad.Top(a) - 1) * 1262611 >> 22
	if n, _ := tenTo(-x - 1).floor(a); dyad.Sign(n) > 0 {
		return x + 1
	}
	return x
}
