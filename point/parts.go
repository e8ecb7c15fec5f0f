package point

import (
	"math"
	"strings"

	"cusp/api"
)

func isMode(mode int) bool { return mode == api.Down || mode == api.Near || mode == api.Up }

// narrowed is a float in 32 bits, rounded: what the language makes of it is the nearest one, and where that lies on the wrong side its neighbour is meant.
func narrowed(f float64, mode int) float32 {
	near := float32(f)
	switch back := float64(near); {
	case mode == api.Down && back > f:
		return math.Nextafter32(near, float32(math.Inf(-1)))
	case mode == api.Up && back < f:
		return math.Nextafter32(near, float32(math.Inf(1)))
	}
	return near
}

// parts is the texts of a value's real and imaginary part; `0` stands for one that the value's text has not.
func parts(s string) (string, string) {
	both, ok := strings.CutSuffix(s, "i")
	if !ok {
		return s, "0"
	}
	if at := seam(both); at > 0 {
		return both[:at], both[at:]
	}
	return "0", both
}

// seam is the place of the last sign that begins a decimal, and 0 where there is none but at the text's own beginning. A sign behind an exponent's mark begins none, as no decimal ends with such a mark; and behind anything else a sign stands in no decimal, so that there is but one way to cut.
func seam(s string) int {
	for at := len(s) - 1; at > 0; at-- {
		if isSign(s[at]) && !isMark(s[at-1]) {
			return at
		}
	}
	return 0
}

func isSign(c byte) bool { return c == '+' || c == '-' }

func isMark(c byte) bool { return c == 'e' || c == 'E' || c == 'p' || c == 'P' }
