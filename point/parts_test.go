package point_test

import (
	"math"
	"testing"

	"cusp/point"
)

// TestPT1Examples: Make and Class as the chapter tells them.
func TestPT1Examples(t *testing.T) {
	z := point.Make(minusZero, inf)
	if !same(real(z), minusZero) || !same(imag(z), inf) {
		t.Error(z)
	}
	if point.Zero != 1 || point.Finite != 2 || point.Inf != 3 || point.NaN != 4 {
		t.Error("the classes' numbers")
	}
	for _, c := range []struct {
		re, im float64
		want   int
	}{
		{inf, nan, 3}, {nan, -inf, 3}, {-inf, inf, 3}, {inf, 0, 3}, {1, -inf, 3},
		{nan, nan, 4}, {nan, 0, 4}, {minusZero, nan, 4}, {1, nan, 4},
		{0, 0, 1}, {minusZero, 0, 1}, {0, minusZero, 1}, {minusZero, minusZero, 1},
		{1, 0, 2}, {0, least, 2}, {-least, minusZero, 2}, {greatest, -greatest, 2},
	} {
		if got := point.Class(complex(c.re, c.im)); got != c.want {
			t.Errorf("Class(%v, %v) = %d, want %d", c.re, c.im, got, c.want)
		}
	}
}

// TestPT1Parts: whatever the parts are, Make hands them on, and Class is told by the two of them.
func TestPT1Parts(t *testing.T) {
	for _, re := range edges() {
		for _, im := range edges() {
			z := point.Make(re, im)
			if !same(real(z), re) || !same(imag(z), im) {
				t.Errorf("Make(%v, %v) = %v", re, im, z)
			}
			want := 2
			switch {
			case math.IsInf(re, 0) || math.IsInf(im, 0):
				want = 3
			case math.IsNaN(re) || math.IsNaN(im):
				want = 4
			case re == 0 && im == 0:
				want = 1
			}
			if got := point.Class(z); got != want {
				t.Errorf("Class(%v) = %d, want %d", z, got, want)
			}
		}
	}
}

// TestPT1Same: by the bits of both parts; a NaN is like each other one, in the same part.
func TestPT1Same(t *testing.T) {
	for _, z := range values() {
		for _, w := range values() {
			if got, want := point.Same(z, w), alike(z, w); got != want {
				t.Errorf("Same(%v, %v) = %v, want %v", z, w, got, want)
			}
		}
	}
	for _, c := range [][2]complex128{{complex(0, 1), complex(minusZero, 1)}, {complex(1, 0), complex(1, minusZero)}, {complex(nan, 1), complex(1, nan)}, {complex(nan, 0), complex(nan, minusZero)}, {complex(1, 2), complex(2, 1)}} {
		if point.Same(c[0], c[1]) {
			t.Errorf("Same(%v, %v)", c[0], c[1])
		}
	}
}

// TestPT2Examples: Conj, Neg and Turn as the chapter tells them.
func TestPT2Examples(t *testing.T) {
	check(t, point.Conj(complex(1, 0)), complex(1, minusZero), "Conj", 1)
	check(t, point.Conj(complex(-inf, -inf)), complex(-inf, inf), "Conj", "-Inf-Infi")
	check(t, point.Neg(complex(0, minusZero)), complex(minusZero, 0), "Neg", "0-0i")
	check(t, point.Neg(complex(inf, nan)), complex(-inf, nan), "Neg", "Inf+NaNi")
	check(t, point.Turn(complex(3, 0), 1), complex(minusZero, 3), "Turn", 3, 1)
	check(t, point.Turn(complex(3, 0), -1), complex(0, -3), "Turn", 3, -1)
	check(t, point.Turn(complex(3, 0), 2), complex(-3, minusZero), "Turn", 3, 2)
	check(t, point.Turn(complex(inf, minusZero), 1), complex(0, inf), "Turn", "Inf-0i", 1)
	check(t, point.Turn(complex(nan, -inf), 1), complex(inf, nan), "Turn", "NaN-Infi", 1)
}

// TestPT2Parts: signs are turned of every part, and nothing else is.
func TestPT2Parts(t *testing.T) {
	ways := map[int]func(re, im float64) complex128{
		0: func(re, im float64) complex128 { return complex(re, im) },
		1: func(re, im float64) complex128 { return complex(turned(im), re) },
		2: func(re, im float64) complex128 { return complex(turned(re), turned(im)) },
		3: func(re, im float64) complex128 { return complex(im, turned(re)) },
	}
	rests := map[int]int{
		0: 0, 1: 1, 2: 2, 3: 3, 4: 0, 5: 1, 6: 2, 7: 3, -1: 3, -2: 2, -3: 1, -4: 0, -5: 3, -7: 1, -8: 0,
		1<<40 + 1: 1, -1<<40 - 1: 3, math.MaxInt: 3, math.MaxInt - 1: 2, math.MaxInt - 3: 0, math.MinInt: 0, math.MinInt + 1: 1, math.MinInt + 2: 2,
	}
	for _, z := range values() {
		re, im := real(z), imag(z)
		check(t, point.Conj(z), complex(re, turned(im)), "Conj", z)
		check(t, point.Neg(z), complex(turned(re), turned(im)), "Neg", z)
		for k, rest := range rests {
			check(t, point.Turn(z, k), ways[rest](re, im), "Turn", z, k)
		}
	}
}

// TestPT3Quadrant: by the signs, those of noughts and infinities too; none where a part is a NaN.
func TestPT3Quadrant(t *testing.T) {
	for _, z := range values() {
		want := [2][2]int{{1, 4}, {2, 3}}[math.Float64bits(real(z))>>63][math.Float64bits(imag(z))>>63]
		if math.IsNaN(real(z)) || math.IsNaN(imag(z)) {
			want = 0
		}
		if got := point.Quadrant(z); got != want {
			t.Errorf("Quadrant(%v) = %d, want %d", z, got, want)
		}
	}
	for want, z := range []complex128{complex(nan, -inf), complex(0, inf), complex(minusZero, 0), complex(minusZero, minusZero), complex(inf, minusZero)} {
		if got := point.Quadrant(z); got != want {
			t.Errorf("Quadrant(%v) = %d, want %d", z, got, want)
		}
	}
}

// rising are floats in the order that the chapter tells.
func rising() []float64 {
	return []float64{-inf, -greatest, -1, -0x1p-1022, -least, minusZero, 0, least, 0x1p-1022, 1, 0x1.0000000000001p0, greatest, inf, nan}
}

// TestPT3Less: by the real parts, then by the imaginary ones, each in the chapter's order of floats.
func TestPT3Less(t *testing.T) {
	order := rising()
	for a, re := range order {
		for b, im := range order {
			for c, re2 := range order {
				for d, im2 := range order {
					want := a < c || a == c && b < d
					z, w := complex(re, im), complex(re2, im2)
					if got := point.Less(z, w); got != want {
						t.Errorf("Less(%v, %v) = %v", z, w, got)
					}
				}
			}
		}
	}
	for _, a := range nans() {
		for _, b := range nans() {
			if point.Less(complex(a, 1), complex(b, 1)) || !point.Less(complex(a, 1), complex(b, 2)) || point.Less(complex(a, 2), complex(b, 1)) || point.Less(complex(1, a), complex(1, b)) || !point.Less(complex(1, a), complex(2, b)) {
				t.Errorf("Less of the NaNs %x, %x", math.Float64bits(a), math.Float64bits(b))
			}
		}
	}
}
