package angle_test

import (
	"math"
	"testing"

	"cusp/api"
	"cusp/consts"
)

func TestAN1WrittenOut(t *testing.T) {
	half := known(consts.HalfPi)
	list := functions()
	for i, rows := range [][]struct {
		x    float64
		want api.Interval
	}{
		{ // Atan
			{1, api.Interval{Lo: 0.7853981633974483, Hi: 0.7853981633974484}}, {-1, api.Interval{Lo: -0.7853981633974484, Hi: -0.7853981633974483}},
			{0.5, next(0.4636476090008061)}, {2, next(1.1071487177940904)}, {-2, turned(next(1.1071487177940904))}, {math.Sqrt(3), next(1.0471975511965976)},
			{inf, half}, {-inf, turned(half)}, {most, half}, {-most, turned(half)}, {0x1p60, half}, {1e16, next(math.Nextafter(half.Lo, 0))},
			{least, api.Interval{Lo: 0, Hi: least}}, {-least, api.Interval{Lo: -least, Hi: 0}}, {3 * least, next(2 * least)}, {0x1p-1022, next(0x1p-1022 - least)},
			{0x1p-30, next(0x1p-30 - 0x1p-83)}, {0x1p-53, next(0x1p-53 - 0x1p-106)}, {0x1p-26, next(0x1p-26 - 0x1p-79)}, {-0x1p-26, next(-0x1p-26)}, {0x1p-25, next(0x1p-25 - 3*0x1p-78)},
		},
		{ // Asin
			{1, half}, {-1, turned(half)}, {0.5, next(0.5235987755982988)}, {-0.5, turned(next(0.5235987755982988))}, {1 - 0x1p-53, next(0x1.921fb50442d18p0)},
			{math.Sqrt(0.5), next(0.7853981633974483)},
			{least, next(least)}, {-least, api.Interval{Lo: -2 * least, Hi: -least}}, {0x1p-1022, next(0x1p-1022)}, {0x1p-30, next(0x1p-30)}, {-0x1p-30, turned(next(0x1p-30))},
			{0x1p-26, next(0x1p-26)}, {0x1p-25, next(0x1p-25)}, {0x1p-24, next(0x1p-24 + 2*0x1p-76)},
		},
	} {
		for _, row := range rows {
			list[i].check(t, row.x, row.want)
		}
	}
}

func TestAN1Noughts(t *testing.T) {
	for _, f := range functions() {
		f.check(t, 0, nothing)
		f.check(t, minus, nothing)
	}
}

func TestAN1Wrong(t *testing.T) {
	atan, asin := functions()[0], functions()[1]
	wrong := func(f function, x float64, want api.Errno) {
		t.Helper()
		if s, err := f.call(x); !same(s, nothing) || err != want {
			t.Errorf("%s(%v) = %x, %v, want %v", f.name, x, s, err, want)
		}
	}
	for _, x := range []float64{nan, -nan, math.Float64frombits(0xfff0000000000001), math.Float64frombits(0x7ff0000000000001)} {
		wrong(atan, x, api.ErrNaN)
		wrong(asin, x, api.ErrNaN)
	}
	for _, x := range []float64{inf, most, 2, math.Nextafter(1, 2)} {
		wrong(asin, x, api.ErrDom)
		wrong(asin, -x, api.ErrDom)
	}
}

// TestAN1P6: each function, held against the tests' own way.
func TestAN1P6(t *testing.T) {
	for what, kind := range map[string]func() []float64{"edges": edges, "hard": hard, "ordinary": ordinary} {
		t.Run(what, func(t *testing.T) {
			t.Parallel()
			for _, f := range functions() {
				for _, x := range f.list(kind) {
					f.check(t, x, tightest(f.want(x)))
				}
			}
		})
	}
}
