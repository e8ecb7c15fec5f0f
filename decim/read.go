package decim

import (
	"strconv"
	"strings"

	"cusp/dyad"
	"cusp/ieee"
)

// farExponent: with MaxDigits digits at most ahead of it (4,400 bits in base 16), a greater exponent of 2 or 10 leads as far beyond all floats as this one.
const farExponent = 6000

// number is what a text says: its digits as a whole number, the last ones behind the point, times a power of ten, or, in base 16, of two.
type number struct {
	base     int
	digits   string
	behind   int
	exponent int
}

// cutSign is the sign ahead of a text, 1 or -1, and what follows it.
func cutSign(s string) (int, string) {
	switch {
	case strings.HasPrefix(s, "-"):
		return -1, s[1:]
	case strings.HasPrefix(s, "+"):
		return 1, s[1:]
	}
	return 1, s
}

// split tells what a text without its sign says, and whether it has the form of a number.
func split(s string) (number, bool) {
	n, marks := number{base: 10}, "eE"
	if strings.HasPrefix(s, "0x") || strings.HasPrefix(s, "0X") {
		n.base, marks, s = 16, "pP", s[2:]
	}
	ok := true
	if at := strings.IndexAny(s, marks); at >= 0 {
		n.exponent, ok = readExponent(s[at+1:])
		s = s[:at]
	} else if n.base == 16 {
		return number{}, false
	}
	ahead, behind, _ := strings.Cut(s, ".")
	n.digits, n.behind = ahead+behind, len(behind)
	return n, ok && areDigits(n.digits, n.base)
}

// readExponent is an exponent, as far as it counts, and whether the text has the form of one.
func readExponent(s string) (int, bool) {
	sign, digits := cutSign(s)
	if !areDigits(digits, 10) {
		return 0, false
	}
	e := 0
	for i := range len(digits) {
		e = min(10*e+int(digits[i]-'0'), farExponent)
	}
	return sign * e, true
}

// areDigits tells whether a text is made of digits of that base, one at least.
func areDigits(s string, base int) bool {
	for i := range len(s) {
		if !isDigit(s[i], base) {
			return false
		}
	}
	return s != ""
}

func isDigit(c byte, base int) bool {
	switch {
	case '0' <= c && c <= '9':
		return true
	case 'a' <= c && c <= 'f', 'A' <= c && c <= 'F':
		return base == 16
	}
	return false
}

// rounded is the number with that sign, rounded.
func (n number) rounded(neg bool, mode int) float64 {
	whole := n.whole()
	if dyad.Sign(whole) == 0 {
		return ieee.Make(neg, 0, 0, mode)
	}
	if neg {
		whole = dyad.Neg(whole)
	}
	s := n.scale()
	f, _ := dyad.Ratio(multiplied(whole, s.over), s.under, mode)
	return f
}

// whole is the number that all digits make, as if there were no point.
func (n number) whole() dyad.Num {
	const most = 15 // digits of base 16 that a word holds
	sum := dyad.Num{}
	for rest := n.digits; rest != ""; {
		part := rest[:min(most, len(rest))]
		rest = rest[len(part):]
		value, _ := strconv.ParseUint(part, n.base, 64)
		sum = added(multiplied(sum, power(n.base, len(part))), ofWord(value))
	}
	return sum
}

// scale is what the last digit is worth.
func (n number) scale() scale {
	if n.base == 16 {
		return twoTo(n.exponent - 4*n.behind)
	}
	return tenTo(n.exponent - n.behind)
}
