package loga_test

import (
	"math"
	"testing"

	"cusp/api"
	"cusp/loga"
)

func TestLG1WrittenOut(t *testing.T) {
	list := functions()
	for i, rows := range [][]struct {
		x    float64
		want api.Interval
	}{
		{ // Log
			{2, api.Interval{Lo: 0.6931471805599453, Hi: 0.6931471805599454}}, {1, nothing}, {0.5, api.Interval{Lo: -0.6931471805599454, Hi: -0.6931471805599453}},
			{10, next(0x1.26bb1bbb55515p1)}, {1 + 0x1p-52, next(0x1p-52 - 0x1p-105)}, {1 - 0x1p-53, next(-0x1p-53 - 0x1p-105)},
			{least, next(-0x1.74385446d71c4p9)}, {most, next(0x1.62e42fefa39efp9)}, {math.E, next(1 - 0x1p-53)},
		},
		{ // Log1p
			{0, nothing}, {1, next(0.6931471805599453)}, {-0.5, next(-0.6931471805599454)}, {least, api.Interval{Lo: 0, Hi: least}}, {-least, api.Interval{Lo: -2 * least, Hi: -least}},
			{0x1p-60, next(0x1p-60 - 0x1p-113)}, {-0x1p-60, next(-0x1p-60 - 0x1p-112)}, {-1 + 0x1p-53, next(-0x1.25e4f7b2737fbp5)}, {most, next(0x1.62e42fefa39efp9)},
		},
		{ // Log2
			{8, api.Interval{Lo: 3, Hi: 3}}, {1, nothing}, {0.125, api.Interval{Lo: -3, Hi: -3}}, {least, api.Interval{Lo: -1074, Hi: -1074}}, {0x1p1023, api.Interval{Lo: 1023, Hi: 1023}},
			{3, next(0x1.95c01a39fbd68p0)}, {most, next(math.Nextafter(1024, 0))}, {3 * least, next(-0x1.0c1a8ff971811p10)}, {0x1.fffffffffffffp-1, next(-0x1.71547652b82ffp-53)},
		},
	} {
		for _, row := range rows {
			list[i].check(t, row.x, row.want)
		}
	}
}

func TestLG1Noughts(t *testing.T) {
	for _, x := range []float64{0, math.Copysign(0, -1)} {
		functions()[1].check(t, x, nothing)
	}
}

func TestLG1Wrong(t *testing.T) {
	for _, f := range functions() {
		for _, row := range []struct {
			x    float64
			want api.Errno
		}{
			{nan, api.ErrNaN}, {-nan, api.ErrNaN}, {math.Float64frombits(0xfff0000000000001), api.ErrNaN}, {inf, api.ErrInf},
			{-inf, api.ErrDom}, {-most, api.ErrDom}, {-2, api.ErrDom}, {math.Nextafter(f.edge, -inf), api.ErrDom}, {f.edge, api.ErrZero}, {-f.edge * -1, api.ErrZero},
		} {
			if s, err := f.call(row.x); !same(s, nothing) || err != row.want {
				t.Errorf("%s(%v) = %x, %v, want %v", f.name, row.x, s, err, row.want)
			}
		}
	}
	for _, call := range []func(float64) (api.Interval, api.Errno){loga.Log, loga.Log2} {
		if s, err := call(math.Copysign(0, -1)); !same(s, nothing) || err != api.ErrZero {
			t.Errorf("of -0: %x, %v", s, err)
		}
	}
}

// TestLG1P6: each function, held against the tests' own way.
func TestLG1P6(t *testing.T) {
	for what, kind := range map[string]func() []float64{"edges": edges, "hard": hard, "ordinary": ordinary} {
		t.Run(what, func(t *testing.T) {
			t.Parallel()
			for _, f := range functions() {
				for _, x := range f.list(kind) {
					if !f.isFloat(x) {
						f.check(t, x, tightest(f.want(x)))
					}
				}
			}
		})
	}
}
