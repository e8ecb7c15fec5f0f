package expo_test

import (
	"math"
	"testing"

	"cusp/api"
	"cusp/expo"
	"cusp/span"
)

func TestEX2WrittenOut(t *testing.T) {
	for _, row := range [][2]api.Interval{
		{{Lo: -inf, Hi: 0}, {Lo: 0, Hi: 1}}, {{Lo: -inf, Hi: inf}, {Lo: 0, Hi: inf}}, {{Lo: 0, Hi: 0}, {Lo: 1, Hi: 1}}, {{Lo: 0, Hi: inf}, {Lo: 1, Hi: inf}},
		{{Lo: 1000, Hi: inf}, {Lo: most, Hi: inf}}, {{Lo: 1000, Hi: 1001}, {Lo: most, Hi: inf}}, {{Lo: -inf, Hi: -1000}, {Lo: 0, Hi: least}}, {{Lo: -1000, Hi: 1000}, {Lo: 0, Hi: inf}},
		{{Lo: -most, Hi: most}, {Lo: 0, Hi: inf}}, {{Lo: 0, Hi: 1}, {Lo: 1, Hi: math.Float64frombits(0x4005bf0a8b14576a)}}, {{Lo: -least, Hi: least}, {Lo: 1 - 0x1p-53, Hi: 1 + 0x1p-52}},
		{{Lo: 1, Hi: 1}, {Lo: math.Float64frombits(0x4005bf0a8b145769), Hi: math.Float64frombits(0x4005bf0a8b14576a)}},
	} {
		if got, err := expo.Span(row[0]); !same(got, row[1]) || err != api.OK {
			t.Errorf("Span(%x) = %x, %v, want %x", row[0], got, err, row[1])
		}
	}
}

func TestEX2Wrong(t *testing.T) {
	minus := math.Copysign(0, -1)
	for _, x := range []api.Interval{
		{Lo: 1, Hi: 0}, {Lo: nan, Hi: 1}, {Lo: 1, Hi: nan}, {Lo: nan, Hi: nan}, {Lo: inf, Hi: inf}, {Lo: -inf, Hi: -inf}, {Lo: inf, Hi: -inf}, {Lo: 0, Hi: -inf},
		{Lo: minus, Hi: 0}, {Lo: 0, Hi: minus}, {Lo: minus, Hi: 1}, {Lo: -1, Hi: minus}, {Lo: least, Hi: 0}, {Lo: nan, Hi: inf},
	} {
		if s, err := expo.Span(x); !same(s, nothing) || err != api.ErrArg {
			t.Errorf("Span(%v) = %x, %v", x, s, err)
		}
	}
}

// spans are intervals between all floats of a list, and without one end or both.
func spans(list []float64) []api.Interval {
	all := []api.Interval{span.All()}
	for i, x := range list {
		y := list[(i*7+3)%len(list)]
		for _, ends := range [][2]float64{{min(x, y), max(x, y)}, {x, x}, {-inf, x}, {x, inf}} {
			s, _ := span.Of(ends[0], ends[1])
			all = append(all, s)
		}
	}
	return all
}

// TestEX2P6: of the ends, by the tests' own way.
func TestEX2P6(t *testing.T) {
	for _, x := range spans(append(ordinary()[:200], edges()...)) {
		want := api.Interval{Lo: 0, Hi: inf}
		if !math.IsInf(x.Lo, 0) {
			want.Lo = tightest(exp(x.Lo)).Lo
		}
		if !math.IsInf(x.Hi, 0) {
			want.Hi = tightest(exp(x.Hi)).Hi
		}
		if got, err := expo.Span(x); !same(got, want) || err != api.OK || !span.Valid(got) {
			t.Errorf("Span(%x) = %x, %v, want %x", x, got, err, want)
		}
	}
}

// TestEX2Within: what lies in an interval has its powers in those of the interval.
func TestEX2Within(t *testing.T) {
	list := spans(ordinary()[:60])
	for _, a := range list {
		inner, _ := expo.Span(a)
		for _, b := range list {
			if !span.Within(a, b) {
				continue
			}
			if outer, _ := expo.Span(b); !span.Within(inner, outer) {
				t.Errorf("Span(%x) = %x is not in Span(%x) = %x", a, inner, b, outer)
			}
		}
	}
}
