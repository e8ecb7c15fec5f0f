package loga_test

import (
	"math"
	"testing"

	"cusp/api"
	"cusp/loga"
	"cusp/span"
)

func TestLG2SpanWrittenOut(t *testing.T) {
	for _, row := range [][2]api.Interval{
		{{Lo: 1, Hi: 1}, nothing}, {{Lo: 1, Hi: 2}, {Lo: 0, Hi: 0.6931471805599454}}, {{Lo: 0.5, Hi: 1}, {Lo: -0.6931471805599454, Hi: 0}}, {{Lo: 2, Hi: 2}, {Lo: 0.6931471805599453, Hi: 0.6931471805599454}},
		{{Lo: 0.5, Hi: 2}, {Lo: -0.6931471805599454, Hi: 0.6931471805599454}}, {{Lo: least, Hi: most}, {Lo: -0x1.74385446d71c4p9, Hi: 0x1.62e42fefa39fp9}},
	} {
		if got, err := loga.Span(row[0]); !same(got, row[1]) || err != api.OK {
			t.Errorf("Span(%x) = %x, %v, want %x", row[0], got, err, row[1])
		}
	}
}

func TestLG2SpanWrong(t *testing.T) {
	minus := math.Copysign(0, -1)
	for _, row := range []struct {
		want api.Errno
		list []api.Interval
	}{
		{api.ErrNaN, []api.Interval{{Lo: nan, Hi: 1}, {Lo: 1, Hi: nan}, {Lo: nan, Hi: nan}, {Lo: -1, Hi: nan}, {Lo: 0, Hi: nan}, {Lo: nan, Hi: inf}, {Lo: nan, Hi: -1}, {Lo: inf, Hi: nan}}},
		{api.ErrDom, []api.Interval{{Lo: -1, Hi: 1}, {Lo: -least, Hi: 1}, {Lo: -inf, Hi: inf}, {Lo: -1, Hi: inf}, {Lo: 2, Hi: 1}, {Lo: least, Hi: 0}, {Lo: 0, Hi: -least}, {Lo: minus, Hi: -1}, {Lo: inf, Hi: 1}, {Lo: inf, Hi: most}, {Lo: 1, Hi: -inf}, {Lo: -2, Hi: -1}, {Lo: -1, Hi: -2}}},
		{api.ErrZero, []api.Interval{{Lo: 0, Hi: 0}, {Lo: minus, Hi: 1}, {Lo: 0, Hi: minus}, {Lo: minus, Hi: 0}, {Lo: minus, Hi: minus}, {Lo: 0, Hi: 1}, {Lo: 0, Hi: inf}, {Lo: minus, Hi: inf}}},
		{api.ErrInf, []api.Interval{{Lo: 1, Hi: inf}, {Lo: least, Hi: inf}, {Lo: most, Hi: inf}, {Lo: inf, Hi: inf}}},
	} {
		for _, x := range row.list {
			if s, err := loga.Span(x); !same(s, nothing) || err != row.want {
				t.Errorf("Span(%v) = %x, %v, want %v", x, s, err, row.want)
			}
		}
	}
}

// spans are intervals between floats of a list, and around one alone.
func spans(list []float64) []api.Interval {
	var all []api.Interval
	for i, x := range list {
		y := list[(i*7+3)%len(list)]
		all = append(all, api.Interval{Lo: min(x, y), Hi: max(x, y)}, api.Interval{Lo: x, Hi: x})
	}
	return all
}

// TestLG2SpanOfEnds: it is what Log tells of the ends.
func TestLG2SpanOfEnds(t *testing.T) {
	for _, x := range spans(functions()[0].list(edges, hard, ordinary)) {
		first, _ := loga.Log(x.Lo)
		last, _ := loga.Log(x.Hi)
		if got, err := loga.Span(x); !same(got, api.Interval{Lo: first.Lo, Hi: last.Hi}) || err != api.OK || !span.Valid(got) {
			t.Errorf("Span(%x) = %x, %v", x, got, err)
		}
	}
}

// TestLG2SpanP6: of the ends, by the tests' own way.
func TestLG2SpanP6(t *testing.T) {
	for _, x := range spans(functions()[0].list(ordinary)[:200]) {
		if x.Lo == 1 || x.Hi == 1 {
			continue
		}
		want := api.Interval{Lo: tightest(logOf(x.Lo)).Lo, Hi: tightest(logOf(x.Hi)).Hi}
		if got, err := loga.Span(x); !same(got, want) || err != api.OK {
			t.Errorf("Span(%x) = %x, %v, want %x", x, got, err, want)
		}
	}
}
