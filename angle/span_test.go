package angle_test

import (
	"testing"

	"cusp/angle"
	"cusp/api"
	"cusp/consts"
	"cusp/span"
)

func TestAN1SpanWrittenOut(t *testing.T) {
	half := known(consts.HalfPi)
	for _, row := range [][2]api.Interval{
		{{Lo: 0, Hi: 0}, nothing}, {{Lo: minus, Hi: minus}, nothing}, {{Lo: 0, Hi: minus}, nothing}, {{Lo: 0, Hi: 1}, {Lo: 0, Hi: 0.7853981633974484}}, {{Lo: -1, Hi: minus}, {Lo: -0.7853981633974484, Hi: 0}},
		{{Lo: 1, Hi: 1}, next(0.7853981633974483)}, {{Lo: -1, Hi: 2}, {Lo: -0.7853981633974484, Hi: 1.1071487177940906}},
		{span.All(), {Lo: -half.Hi, Hi: half.Hi}}, {{Lo: 1, Hi: inf}, {Lo: 0.7853981633974483, Hi: half.Hi}}, {{Lo: -inf, Hi: 0}, {Lo: -half.Hi, Hi: 0}},
		{{Lo: inf, Hi: inf}, half}, {{Lo: -inf, Hi: -inf}, turned(half)}, {{Lo: most, Hi: inf}, half}, {{Lo: -least, Hi: least}, {Lo: -least, Hi: least}},
	} {
		if got, err := angle.Span(row[0]); !same(got, row[1]) || err != api.OK {
			t.Errorf("Span(%x) = %x, %v, want %x", row[0], got, err, row[1])
		}
	}
}

func TestAN1SpanWrong(t *testing.T) {
	for _, row := range []struct {
		want api.Errno
		list []api.Interval
	}{
		{api.ErrNaN, []api.Interval{{Lo: nan, Hi: 1}, {Lo: 1, Hi: nan}, {Lo: nan, Hi: nan}, {Lo: inf, Hi: nan}, {Lo: nan, Hi: -inf}}},
		{api.ErrDom, []api.Interval{{Lo: 2, Hi: 1}, {Lo: least, Hi: 0}, {Lo: minus, Hi: -least}, {Lo: inf, Hi: -inf}, {Lo: inf, Hi: most}, {Lo: -most, Hi: -inf}, {Lo: 1, Hi: -1}}},
	} {
		for _, x := range row.list {
			if s, err := angle.Span(x); !same(s, nothing) || err != row.want {
				t.Errorf("Span(%v) = %x, %v, want %v", x, s, err, row.want)
			}
		}
	}
}

// spans are intervals between floats of a list, and around one alone.
func spans(list []float64) []api.Interval {
	var all []api.Interval
	for i, x := range list {
		y := list[(i*7+3)%len(list)]
		all = append(all, api.Interval{Lo: min(x, y), Hi: max(x, y)}, api.Interval{Lo: x, Hi: x})
	}
	return all
}

// TestAN1SpanOfEnds: it is what Atan tells of the ends, and holds what that tells of a float between.
func TestAN1SpanOfEnds(t *testing.T) {
	atan := functions()[0]
	for _, x := range spans(append(all(), 0, inf, -inf)) {
		got, err := angle.Span(x)
		if want := (api.Interval{Lo: atan.asked(t, x.Lo).Lo, Hi: atan.asked(t, x.Hi).Hi}); !same(got, want) || err != api.OK || !span.Valid(got) {
			t.Errorf("Span(%x) = %x, %v, want %x", x, got, err, want)
		}
		if middle := x.Lo/2 + x.Hi/2; middle >= x.Lo && middle <= x.Hi && !span.Within(atan.asked(t, middle), got) {
			t.Errorf("Span(%x) = %x, and Atan(%x) is not in it", x, got, middle)
		}
	}
}

// TestAN1SpanP6: of the ends, by the tests' own way.
func TestAN1SpanP6(t *testing.T) {
	for _, x := range spans(ordinary()[:200]) {
		want := api.Interval{Lo: tightest(arctangentOf(x.Lo)).Lo, Hi: tightest(arctangentOf(x.Hi)).Hi}
		if got, err := angle.Span(x); !same(got, want) || err != api.OK {
			t.Errorf("Span(%x) = %x, %v, want %x", x, got, err, want)
		}
	}
}
