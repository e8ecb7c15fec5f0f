package trig_test

import (
	"math"
	"math/big"
	"slices"
	"testing"

	"cusp/api"
	"cusp/trig"
)

func TestTR1WrittenOut(t *testing.T) {
	bits := math.Float64frombits
	list := functions()
	for i, rows := range [][]struct {
		x    float64
		want api.Interval
	}{
		{ // Sin
			{1, next(bits(0x3feaed548f090cee))}, {-1, next(-bits(0x3feaed548f090cef))}, {math.Pi, next(bits(0x3ca1a62633145c06))}, {-math.Pi, next(-bits(0x3ca1a62633145c07))},
			{math.Pi / 2, next(1 - 0x1p-53)}, {-math.Pi / 2, next(-1)}, {math.Pi / 6, next(0.5)}, {1e22, next(-0.8522008497671889)},
			{least, api.Interval{Lo: 0, Hi: least}}, {-least, api.Interval{Lo: -least, Hi: 0}}, {0x1p-30, next(0x1p-30 - 0x1p-83)}, {0x1p-26, next(0x1p-26 - 0x1p-79)}, {-0x1p-26, next(-0x1p-26)},
			{0x1p-25, next(0x1p-25 - 2*0x1p-78)}, {nearest, next(1 - 0x1p-53)}, {-nearest, next(-1)},
		},
		{ // Cos
			{1e22, next(bits(0x3fe0be2cef01c8f3))}, {-1e22, next(bits(0x3fe0be2cef01c8f3))}, {1, next(0.5403023058681397)}, {math.Pi, next(-1)}, {-math.Pi, next(-1)},
			{math.Pi / 2, next(0x1.1a62633145c06p-54)}, {-math.Pi / 2, next(0x1.1a62633145c06p-54)}, {math.Pi / 3, next(0.5 - 0x1p-53)}, {least, next(1 - 0x1p-53)}, {-least, next(1 - 0x1p-53)},
			{0x1p-26, next(1 - 0x1p-53)}, {-0x1p-26, next(1 - 0x1p-53)}, {math.Nextafter(0x1p-26, 1), next(1 - 0x1p-52)}, {0x1p-25, next(1 - 0x1p-51)}, {nearest, next(-0x1.14ae72e6ba22fp-61)}, {-nearest, next(-0x1.14ae72e6ba22fp-61)},
		},
		{ // Tan
			{1, next(1.5574077246549023 - 0x1p-52)}, {-1, next(-1.5574077246549023)}, {math.Pi / 4, next(1 - 0x1p-53)}, {math.Pi / 2, next(16331239353195368)}, {-math.Pi / 2, next(-16331239353195370)}, {math.Nextafter(math.Pi/2, 2), next(-6218431163823739)},
			{math.Pi, next(-1.2246467991473532e-16)}, {least, next(least)}, {-least, api.Interval{Lo: -2 * least, Hi: -least}}, {0x1p-30, next(0x1p-30)}, {-0x1p-30, next(math.Nextafter(-0x1p-30, -1))}, {0x1p-26, next(0x1p-26)},
		},
		{ // Rest
			{0.5, only(0.5)}, {-0.5, only(-0.5)}, {least, only(least)}, {-least, only(-least)}, {math.Pi / 4, only(math.Pi / 4)}, {-math.Pi / 4, only(-math.Pi / 4)},
			{math.Nextafter(math.Pi/4, 1), next(-0.7853981633974483)}, {1, next(-0.5707963267948967)}, {-1, next(0.5707963267948966)}, {math.Pi, next(-1.2246467991473532e-16)}, {2, next(0.42920367320510333)}, {4, next(-0.7123889803846899)},
		},
	} {
		for _, row := range rows {
			list[i].check(t, row.x, row.want)
		}
	}
}

func TestTR1QuarterWrittenOut(t *testing.T) {
	for _, row := range []struct {
		x    float64
		want int
	}{
		{0, 0}, {minus, 0}, {least, 0}, {-least, 3}, {0.5, 0}, {-0.5, 3}, {1.5, 0}, {2, 1}, {math.Pi / 2, 0}, {math.Nextafter(math.Pi/2, 2), 1}, {-math.Pi / 2, 3}, {-math.Nextafter(math.Pi/2, 2), 2},
		{math.Pi, 1}, {math.Nextafter(math.Pi, 4), 2}, {-math.Pi, 2}, {3, 1}, {4, 2}, {5, 3}, {6, 3}, {7, 0}, {-2, 2}, {-4, 1}, {-5, 0}, {-7, 3}, {1e22, 3}, {-1e22, 0},
	} {
		checkQuarter(t, row.x, row.want)
	}
}

func checkQuarter(t *testing.T, x float64, want int) {
	t.Helper()
	if got, err := trig.Quarter(x); got != want || err != api.OK {
		t.Errorf("Quarter(%x) = %d, %v, want %d", x, got, err, want)
	}
}

func TestTR1Quarter(t *testing.T) {
	for _, x := range all() {
		checkQuarter(t, x, int(new(big.Int).And(quarters(x, 0), big.NewInt(3)).Int64()))
	}
}

func TestTR3Noughts(t *testing.T) {
	for i, want := range []float64{0, 1, 0, 0} {
		for _, x := range []float64{0, minus} {
			functions()[i].check(t, x, only(want))
		}
	}
}

func TestTR1Wrong(t *testing.T) {
	for _, row := range []struct {
		x    float64
		want api.Errno
	}{{nan, api.ErrNaN}, {-nan, api.ErrNaN}, {math.Float64frombits(0xfff0000000000001), api.ErrNaN}, {math.Float64frombits(0x7ff0000000000001), api.ErrNaN}, {inf, api.ErrInf}, {-inf, api.ErrInf}} {
		for _, f := range functions() {
			if s, err := f.call(row.x); !same(s, nothing) || err != row.want {
				t.Errorf("%s(%v) = %x, %v, want %v", f.name, row.x, s, err, row.want)
			}
		}
		if n, err := trig.Quarter(row.x); n != 0 || err != row.want {
			t.Errorf("Quarter(%v) = %d, %v, want %v", row.x, n, err, row.want)
		}
	}
}

// TestTR1P6: each function, held against the tests' own way.
func TestTR1P6(t *testing.T) {
	for what, kind := range map[string]func() []float64{"edges": edges, "turns": turns, "hard": hard, "ordinary": ordinary} {
		t.Run(what, func(t *testing.T) {
			t.Parallel()
			for _, x := range kind() {
				for _, f := range functions() {
					f.check(t, x, tightest(f.want(x)))
				}
			}
		})
	}
}

// TestTR1Nearest: of the floats of every size the one that comes nearest to a whole number of quarter turns has its rest told, and none is nearer than the one that is known.
func TestTR1Nearest(t *testing.T) {
	size := func(x float64) float64 {
		s := functions()[3].asked(t, x)
		return max(-s.Lo, s.Hi)
	}
	closest := inf
	for e := -53; e <= 970; e++ {
		closest = min(closest, size(slices.Max(nearTurns(e))))
	}
	if closest != size(nearest) || closest < 0x1p-62 || closest > 0x1p-60 {
		t.Errorf("the nearest rest is %x, that of %x is %x", closest, nearest, size(nearest))
	}
}
