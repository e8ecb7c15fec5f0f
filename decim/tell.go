package decim

import (
	"math/bits"
	"strconv"
	"strings"

	"cusp/dyad"
	"cusp/ieee"
)

// told is a float's text: its sign, and, where it is finite, what tell tells of its magnitude.
func told(f float64, tell func() string) string {
	class, neg := ieee.Class(f)
	text := ""
	switch class {
	case ieee.NaN:
		return "nan"
	case ieee.Inf:
		text = "inf"
	default:
		text = tell()
	}
	if neg {
		return "-" + text
	}
	return text
}

// wholeText is a whole number that is not below 0 in decimal digits, without noughts ahead; of 0 there are none.
func wholeText(n dyad.Num) string {
	const most = 18 // decimal digits that a word holds
	step := power(10, most)
	text := ""
	for dyad.Sign(n) > 0 {
		high, _, _ := dyad.Quo(n, step, 0)
		text = lastDigits(word(taken(n, multiplied(high, step))), most) + text
		n = high
	}
	return strings.TrimLeft(text, "0")
}

// lastDigits are so many of n's decimal digits, the last ones.
func lastDigits(n uint64, count int) string {
	text := make([]byte, count)
	for i := range count {
		text[count-1-i] = '0' + byte(n%10)
		n /= 10
	}
	return string(text)
}

// hexText is m, that is odd, times 2^e.
func hexText(m uint64, e int) string {
	size := bits.Len64(m)
	text := "0x1"
	if size > 1 {
		behind := strconv.FormatUint(m<<(65-size), 16) // the highest bit is shifted out
		text += "." + strings.TrimRight(noughts(16-len(behind))+behind, "0")
	}
	return text + "p" + strconv.Itoa(e+size-1)
}

// pointed are digits with the last places of them behind a point, or, where places is below 0, with noughts up to it.
func pointed(digits string, places int) string {
	if places <= 0 {
		return noughts(1-len(digits)) + digits + noughts(-places)
	}
	digits = noughts(places+1-len(digits)) + digits
	point := len(digits) - places
	return digits[:point] + "." + digits[point:]
}

// exponential are digits with a point behind the first one, which is worth 10^x.
func exponential(digits string, x int) string {
	text := digits[:1]
	if len(digits) > 1 {
		text += "." + digits[1:]
	}
	return text + "e" + strconv.Itoa(x)
}

// noughts are n of them, none if n is below 0.
func noughts(n int) string { return strings.Repeat("0", max(0, n)) }
