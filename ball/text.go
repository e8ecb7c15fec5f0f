package ball

import (
	"strings"

	"cusp/api"
	"cusp/arith"
	"cusp/decim"
	"cusp/point"
	"cusp/round"
)

const planeText = "[plane]"

// texts are those of a ball's middle and of its radius.
type texts struct{ mid, rad string }

// split cuts a ball's text, that is not the plane's; whether it has its brackets. Without a radius that is `0`.
func split(s string) (texts, bool) {
	inner, opened := strings.CutPrefix(s, "[")
	inner, closed := strings.CutSuffix(inner, "]")
	if mid, rad, ok := strings.Cut(inner, "~"); ok {
		return texts{strings.TrimRight(mid, " "), strings.TrimLeft(rad, " ")}, opened && closed
	}
	return texts{inner, "0"}, opened && closed
}

// read is the ball of both texts. Their forms count ahead of how long they are.
func (t texts) read() (api.Ball, api.Errno) {
	mid, midErr := point.Read(t.mid, api.Near)
	rad, radErr := decim.Read(t.rad, api.Up)
	switch {
	case midErr == api.ErrForm || radErr == api.ErrForm || hasName(t.mid) || hasName(t.rad) || isBelowNought(t.rad):
		return api.Ball{}, api.ErrForm
	case midErr != api.OK:
		return api.Ball{}, midErr
	case radErr != api.OK:
		return api.Ball{}, radErr
	}
	lost := t.lost()
	rad = round.Add(rad, real(lost), api.Up)
	rad = round.Add(rad, imag(lost), api.Up)
	return orPlane(mid, rad), api.OK
}

// lost is by how much each part of a middle may differ from what its text says.
func (t texts) lost() complex128 {
	low, _ := point.Read(t.mid, api.Down)
	high, _ := point.Read(t.mid, api.Up)
	return arith.Sub(high, low, api.Up)
}

// hasName tells whether a text that has its form has `inf` or `nan`: this letter stands in nothing else.
func hasName(s string) bool { return strings.Contains(s, "n") }

// isBelowNought tells it of a decimal's text by its digits: they may be more than can be read, and what they say may be rounded to nought.
func isBelowNought(s string) bool {
	s, minus := strings.CutPrefix(s, "-")
	marks := "eE"
	if strings.HasPrefix(s, "0x") || strings.HasPrefix(s, "0X") {
		s, marks = s[2:], "pP"
	}
	if at := strings.IndexAny(s, marks); at >= 0 {
		s = s[:at]
	}
	return minus && strings.Trim(s, "0.") != ""
}
