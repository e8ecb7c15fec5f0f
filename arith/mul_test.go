package arith_test

import (
	"math"
	"testing"

	"cusp/api"
	"cusp/arith"
	"cusp/round"
)

// TestAR1Sums: Add and Sub are round's, part by part, of all floats and modes.
func TestAR1Sums(t *testing.T) {
	other := []complex128{complex(1, -2), complex(minusZero, 0), complex(-inf, greatest), complex(0x1p-60, -0.1), complex(nan, inf)}
	for _, a := range pairs(edges()) {
		for _, b := range other {
			for _, mode := range append(modes[:], 0) {
				sum := complex(round.Add(real(a), real(b), mode), round.Add(imag(a), imag(b), mode))
				check(t, arith.Add(a, b, mode), sum, "Add", a, b, mode)
				less := complex(round.Sub(real(a), real(b), mode), round.Sub(imag(a), imag(b), mode))
				check(t, arith.Sub(a, b, mode), less, "Sub", a, b, mode)
				less = complex(round.Sub(real(b), real(a), mode), round.Sub(imag(b), imag(a), mode))
				check(t, arith.Sub(b, a, mode), less, "Sub", b, a, mode)
			}
		}
	}
}

// TestAR1SumCases: sums and differences, written out.
func TestAR1SumCases(t *testing.T) {
	for _, c := range []struct{ a, b, down, near, up complex128 }{
		{1 + 2i, 3 - 5i, 4 - 3i, 4 - 3i, 4 - 3i},
		{1 - 1i, 0x1p-60 - 0x1p-60i, complex(1, -afterOne), 1 - 1i, complex(afterOne, -1)},
		{1 + 1i, -1 - 1i, complex(minusZero, minusZero), 0, 0},
		{complex(minusZero, minusZero), complex(minusZero, 0), complex(minusZero, minusZero), complex(minusZero, 0), complex(minusZero, 0)},
		{complex(greatest, -greatest), complex(greatest, -greatest), complex(greatest, -inf), complex(inf, -inf), complex(inf, -greatest)},
		{complex(inf, 1), complex(-inf, 1), complex(nan, 2), complex(nan, 2), complex(nan, 2)}, // one part does not touch the other
		{complex(1, nan), complex(1, 0), complex(2, nan), complex(2, nan), complex(2, nan)},
	} {
		for i, mode := range modes {
			want := [3]complex128{c.down, c.near, c.up}[i]
			check(t, arith.Add(c.a, c.b, mode), want, "Add", c.a, c.b, mode)
			check(t, arith.Sub(c.a, -c.b, mode), want, "Sub", c.a, -c.b, mode)
		}
	}
}

// TestAR1MulCases: products, written out.
func TestAR1MulCases(t *testing.T) {
	big := complex(1e200, 1e200)
	for _, c := range []struct{ a, b, down, near, up complex128 }{
		{1 + 2i, 3 + 4i, -5 + 10i, -5 + 10i, -5 + 10i},
		{1 + 2i, 3 - 1i, 5 + 5i, 5 + 5i, 5 + 5i},
		{1i, 1i, complex(-1, 0), complex(-1, 0), complex(-1, 0)},
		// what cancels is -0 by Down alone
		{1 + 1i, 1 + 1i, complex(minusZero, 2), 2i, 2i},
		{1 + 1i, 1 - 1i, complex(2, minusZero), 2, 2},
		{big, big, complex(minusZero, greatest), complex(0, inf), complex(0, inf)},
		{big, -big, complex(minusZero, -inf), complex(0, -inf), complex(0, -greatest)},
		// one rounding: the products by themselves would be lost, or beyond all floats
		{complex(afterOne, afterOne), complex(beforeOne, 1), complex(-0x1p-53-0x1p-105, 2), complex(-0x1p-53-0x1p-105, 0x1.0000000000001p1), complex(-0x1p-53-0x1p-105, 0x1.0000000000001p1)},
		{complex(greatest, 0x1p1023), complex(2, 0x1.ffffffffffffep1), complex(0x1p972, greatest), complex(0x1p972, inf), complex(0x1p972, inf)},
		{complex(0x1p-600, 0x1p-600), complex(0x1p-600, 0x1p-601), complex(0, 0), complex(0, 0), complex(least, least)},
		{complex(-0x1p-600, 0x1p-600), complex(0x1p-600, 0x1p-601), complex(-least, 0), complex(minusZero, 0), complex(minusZero, least)},
	} {
		for i, mode := range modes {
			check(t, arith.Mul(c.a, c.b, mode), [3]complex128{c.down, c.near, c.up}[i], "Mul", c.a, c.b, mode)
		}
	}
}

// TestAR1MulNoughts: the noughts of products of noughts, by the signs of both products, written out.
func TestAR1MulNoughts(t *testing.T) {
	m := minusZero
	for _, c := range []struct{ a, b, down, near complex128 }{
		{complex(0, 0), complex(0, 0), complex(m, 0), complex(0, 0)}, // 0 and -0; 0 and 0
		{complex(0, m), complex(0, 0), complex(0, m), complex(0, 0)}, // 0 and 0; 0 and -0
		{complex(m, 0), complex(0, 0), complex(m, m), complex(m, 0)}, // -0 and -0; -0 and 0
		{complex(m, m), complex(0, 0), complex(m, m), complex(0, m)}, // -0 and 0; -0 and -0
		{complex(0, m), complex(0, m), complex(m, m), complex(0, m)}, // 0 and -0; -0 and -0
		{complex(m, m), complex(m, m), complex(m, 0), complex(0, 0)}, // 0 and -0; 0 and 0
		{complex(-2, 0), complex(0, 3), complex(m, -6), complex(m, -6)},
		{complex(2, 0), complex(m, 0), complex(m, m), complex(m, 0)},
		{complex(2, m), complex(0, -3), complex(m, -6), complex(0, -6)},
		{complex(2, 5), complex(0, 0), complex(m, 0), complex(0, 0)},
		{complex(-2, -5), complex(0, 0), complex(m, m), complex(0, m)},
	} {
		check(t, arith.Mul(c.a, c.b, api.Down), c.down, "Mul", c.a, c.b, "Down")
		check(t, arith.Mul(c.a, c.b, api.Near), c.near, "Mul", c.a, c.b, "Near")
		check(t, arith.Mul(c.a, c.b, api.Up), c.near, "Mul", c.a, c.b, "Up")
	}
}

// TestAR1QuoCases: quotients, written out.
func TestAR1QuoCases(t *testing.T) {
	third, thirdUp := 0.3333333333333333, 0x1.5555555555556p-2
	m := minusZero
	for _, c := range []struct{ a, b, down, near, up complex128 }{
		{1, 1i, complex(0, -1), complex(0, -1), complex(0, -1)},
		{-5 + 10i, 3 + 4i, 1 + 2i, 1 + 2i, 1 + 2i},
		{1 - 1i, 3, complex(third, -thirdUp), complex(third, -third), complex(thirdUp, -third)},
		{1 + 1i, 1 - 1i, complex(m, 1), 1i, 1i},
		{1 + 1i, 1 + 1i, complex(1, m), 1, 1},
		{complex(0, 0), complex(1, 1), complex(0, m), complex(0, 0), complex(0, 0)},     // 0 and 0; 0 and -0
		{complex(m, 0), complex(1, 1), complex(m, 0), complex(0, 0), complex(0, 0)},     // -0 and 0; 0 and 0
		{complex(0, m), complex(1, 1), complex(m, m), complex(0, m), complex(0, m)},     // 0 and -0; -0 and -0
		{complex(m, m), complex(1, 1), complex(m, m), complex(m, 0), complex(m, 0)},     // -0 and -0; -0 and 0
		{complex(1, 0), complex(-1, 0), complex(-1, m), complex(-1, m), complex(-1, m)}, // -1 and 0; -0 and -0
		// squares beyond all floats, and below them
		{complex(greatest, greatest), complex(greatest, greatest), complex(1, m), 1, 1},
		{complex(least, 0), complex(least, least), complex(0.5, -0.5), complex(0.5, -0.5), complex(0.5, -0.5)},
		{1, complex(0, least), complex(0, -inf), complex(0, -inf), complex(0, -greatest)},
		{1i, complex(0, least), complex(greatest, m), complex(inf, 0), complex(inf, 0)},
		{least, 2i, complex(0, -least), complex(0, m), complex(0, m)},
		{complex(0, least), complex(0, 2), complex(0, m), complex(0, 0), complex(least, 0)},
	} {
		for i, mode := range modes {
			check(t, arith.Quo(c.a, c.b, mode), [3]complex128{c.down, c.near, c.up}[i], "Quo", c.a, c.b, mode)
		}
	}
}

// TestAR1NotFinite: one part that is not finite, wherever it stands, leaves no number in either part; nor does a 0 to divide by.
func TestAR1NotFinite(t *testing.T) {
	for _, mode := range modes {
		for _, bad := range notFinite() {
			for _, f := range edges() {
				for _, wrong := range []complex128{complex(bad, f), complex(f, bad)} {
					for _, right := range []complex128{1, 1i, 0, complex(minusZero, f)} {
						check(t, arith.Mul(wrong, right, mode), noValue, "Mul", wrong, right, mode)
						check(t, arith.Mul(right, wrong, mode), noValue, "Mul", right, wrong, mode)
						check(t, arith.Quo(wrong, right, mode), noValue, "Quo", wrong, right, mode)
						check(t, arith.Quo(right, wrong, mode), noValue, "Quo", right, wrong, mode)
					}
				}
			}
		}
		for _, zero := range pairs([]float64{0, minusZero}) {
			for _, a := range pairs(edges()) {
				check(t, arith.Quo(a, zero, mode), noValue, "Quo", a, zero, mode)
			}
		}
	}
}

func checkBoth(t *testing.T, a, b complex128, mode int) {
	t.Helper()
	check(t, arith.Mul(a, b, mode), wantMul(a, b, mode), "Mul", a, b, mode)
	check(t, arith.Quo(a, b, mode), wantQuo(a, b, mode), "Quo", a, b, mode)
}

// TestAR1P6Corners: all products and quotients of values at corners, in each mode.
func TestAR1P6Corners(t *testing.T) {
	all := pairs(corners())
	for i, a := range all {
		for j, b := range all {
			checkBoth(t, a, b, modes[(i+j)%3])
		}
	}
	few := pairs(bothSigns(0, least, 1))
	for _, a := range few {
		for _, b := range few {
			for _, mode := range modes {
				checkBoth(t, a, b, mode)
			}
		}
	}
}

// TestAR1P6Many: many products and quotients, some of parts that nearly cancel.
func TestAR1P6Many(t *testing.T) {
	r := numbers{seed: 701}
	for range 2500 {
		a, b := r.value(), r.value()
		if r.below(2) == 0 {
			b = r.beside(a)
		}
		for _, mode := range modes {
			checkBoth(t, a, b, mode)
		}
	}
}

// TestAR1P6Halves: parts that lie in the middle between two floats, and beside it.
func TestAR1P6Halves(t *testing.T) {
	r := numbers{seed: 702}
	for range 1500 {
		whole := math.Ldexp(float64(1<<52|r.word()>>12), r.below(40)-60)
		unit := math.Nextafter(whole, inf) - whole
		tail := []float64{0, unit * 0x1p-60, -unit * 0x1p-60}[r.below(3)]
		sign := float64(1 - r.below(2)*2)
		for _, mode := range modes {
			// whole + unit/2 + tail, half a unit coming of the one product or of both
			checkBoth(t, complex(sign*whole, sign*(unit/2+tail)), complex(1, -1), mode)
			checkBoth(t, complex(sign*whole, sign), complex(1, -unit/2-tail), mode)
		}
	}
}
