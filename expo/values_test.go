package expo_test

import (
	"math"
	"testing"

	"cusp/api"
)

var nothing = api.Interval{}

func TestEX1WrittenOut(t *testing.T) {
	bits := math.Float64frombits
	next := func(lo float64) api.Interval { return api.Interval{Lo: lo, Hi: math.Nextafter(lo, inf)} }
	list := functions()
	for i, rows := range [][]struct {
		x    float64
		want api.Interval
	}{
		{ // Exp
			{0, api.Interval{Lo: 1, Hi: 1}}, {1, api.Interval{Lo: bits(0x4005bf0a8b145769), Hi: bits(0x4005bf0a8b14576a)}},
			{1000, api.Interval{Lo: most, Hi: inf}}, {-1000, api.Interval{Lo: 0, Hi: least}}, {most, api.Interval{Lo: most, Hi: inf}}, {-most, api.Interval{Lo: 0, Hi: least}},
			{least, next(1)}, {-least, api.Interval{Lo: 1 - 0x1p-53, Hi: 1}}, {0x1p-52, next(1 + 0x1p-52)}, {709.782712893384, next(bits(0x7fefffffffffff2a))}, {-745.1332191019412, api.Interval{Lo: 0, Hi: least}},
		},
		{ // Expm1
			{0, nothing}, {5e-324, api.Interval{Lo: 5e-324, Hi: 1e-323}}, {-5e-324, api.Interval{Lo: -5e-324, Hi: 0}},
			{-1000, next(-1)}, {-most, next(-1)}, {1000, api.Interval{Lo: most, Hi: inf}}, {most, api.Interval{Lo: most, Hi: inf}}, {-0x1p-60, next(-0x1p-60)},
		},
		{ // Exp2
			{-3, api.Interval{Lo: 0.125, Hi: 0.125}}, {0, api.Interval{Lo: 1, Hi: 1}}, {1023, api.Interval{Lo: 0x1p1023, Hi: 0x1p1023}}, {1024, api.Interval{Lo: most, Hi: inf}},
			{-1074, api.Interval{Lo: least, Hi: least}}, {-1075, api.Interval{Lo: 0, Hi: least}}, {-1073.5, api.Interval{Lo: least, Hi: 2 * least}}, {0.5, next(bits(0x3ff6a09e667f3bcc))},
			{most, api.Interval{Lo: most, Hi: inf}}, {-most, api.Interval{Lo: 0, Hi: least}},
		},
		{ // Sinh
			{0, nothing}, {1, api.Interval{Lo: bits(0x3ff2cd9fc44eb982), Hi: bits(0x3ff2cd9fc44eb983)}}, {-1, api.Interval{Lo: -bits(0x3ff2cd9fc44eb983), Hi: -bits(0x3ff2cd9fc44eb982)}},
			{least, next(least)}, {-least, api.Interval{Lo: -2 * least, Hi: -least}}, {711, api.Interval{Lo: most, Hi: inf}}, {-711, api.Interval{Lo: -inf, Hi: -most}}, {-most, api.Interval{Lo: -inf, Hi: -most}},
		},
		{ // Cosh
			{0, api.Interval{Lo: 1, Hi: 1}}, {least, next(1)}, {-least, next(1)}, {0x1p-26, next(1)}, {0x1p-25, next(1 + 0x1p-51)}, {711, api.Interval{Lo: most, Hi: inf}}, {-most, api.Interval{Lo: most, Hi: inf}},
		},
	} {
		for _, row := range rows {
			list[i].check(t, row.x, row.want)
		}
	}
}

func TestEX1Noughts(t *testing.T) {
	for i, one := range []float64{1, 0, 1, 0, 1} {
		for _, x := range []float64{0, math.Copysign(0, -1)} {
			functions()[i].check(t, x, api.Interval{Lo: one, Hi: one})
		}
	}
}

func TestEX1Wrong(t *testing.T) {
	for _, f := range functions() {
		for _, row := range []struct {
			x    float64
			want api.Errno
		}{{nan, api.ErrNaN}, {-nan, api.ErrNaN}, {math.Float64frombits(0xfff0000000000001), api.ErrNaN}, {inf, api.ErrInf}, {-inf, api.ErrInf}} {
			if s, err := f.call(row.x); !same(s, nothing) || err != row.want {
				t.Errorf("%s(%v) = %x, %v", f.name, row.x, s, err)
			}
		}
	}
}

// TestEX1P6: each function, held against the tests' own way.
func TestEX1P6(t *testing.T) {
	for what, list := range map[string][]float64{"edges": edges(), "hard": hard(), "ordinary": ordinary()} {
		t.Run(what, func(t *testing.T) {
			for _, f := range functions() {
				for _, x := range list {
					f.check(t, x, tightest(f.want(x)))
				}
			}
		})
	}
}

// TestEX1Far: beyond all that the tests' own way reaches.
func TestEX1Far(t *testing.T) {
	above, below := api.Interval{Lo: most, Hi: inf}, api.Interval{Lo: 0, Hi: least}
	ends := [][2]api.Interval{ // from above, from below 0
		{above, below}, {above, {Lo: -1, Hi: math.Nextafter(-1, 0)}}, {above, below}, {above, {Lo: -inf, Hi: -most}}, {above, above},
	}
	r := numbers{2}
	for range 300 {
		x := math.Abs(r.float(11, 1024))
		for i, f := range functions() {
			f.check(t, x, ends[i][0])
			f.check(t, -x, ends[i][1])
		}
	}
}
