package arith_test

import (
	"math"
	"testing"

	"cusp/api"
	"cusp/arith"
	"cusp/round"
)

// TestAR2Plain: each product and each sum by itself, as the machine does them.
func TestAR2Plain(t *testing.T) {
	r := numbers{seed: 703}
	others := pairs([]float64{0, minusZero, -1, 0.1, 1e200, least, inf, nan})
	for _, a := range pairs(edges()) {
		for _, b := range others {
			checkPlain(t, a, b)
		}
	}
	for range 20000 {
		a := r.value()
		checkPlain(t, a, r.value())
		checkPlain(t, a, r.beside(a))
	}
}

func checkPlain(t *testing.T, a, b complex128) {
	t.Helper()
	x, y, u, v := real(a), imag(a), real(b), imag(b)
	want := complex(float64(x*u)-float64(y*v), float64(x*v)+float64(y*u)) // a conversion keeps each product's own rounding
	check(t, arith.Plain(a, b), want, "Plain", a, b)
}

// TestAR2PlainCases: where it differs from Mul, written out.
func TestAR2PlainCases(t *testing.T) {
	big := complex(1e200, 1e200)
	m := minusZero
	for _, c := range []struct{ a, b, want complex128 }{
		{big, big, complex(nan, inf)},
		{1 + 2i, 3 + 4i, -5 + 10i},
		{complex(inf, 0), 1, complex(inf, nan)}, // an infinity times 0
		{complex(inf, 1), complex(2, 1), complex(inf, inf)},
		{complex(inf, inf), complex(1, 1), complex(nan, inf)},
		{complex(nan, 1), 1, complex(nan, nan)},
		{complex(afterOne, 1), complex(beforeOne, 1), complex(0, afterOne+beforeOne)}, // Mul keeps what the first product loses
		{complex(m, 0), complex(0, 0), complex(m, 0)},
		{complex(m, m), complex(0, 0), complex(0, m)},
		{complex(0x1p-600, 0), complex(-0x1p-600, 0), complex(m, 0)},
	} {
		check(t, arith.Plain(c.a, c.b), c.want, "Plain", c.a, c.b)
	}
	if got := arith.Mul(complex(afterOne, 1), complex(beforeOne, 1), api.Near); real(got) != 0x1p-53-0x1p-105 {
		t.Errorf("Mul lost what a product has beyond a float: %x", got)
	}
}

// TestAR2Abs: round.Hypot of the parts, with each mode, also such as are none.
func TestAR2Abs(t *testing.T) {
	for _, z := range pairs(edges()) {
		for _, mode := range append(modes[:], 0, 4) {
			checkFloat(t, arith.Abs(z, mode), round.Hypot(real(z), imag(z), mode), "Abs", z, mode)
		}
	}
	for _, c := range []struct {
		z              complex128
		down, near, up float64
	}{
		{3 + 4i, 5, 5, 5}, {-3 - 4i, 5, 5, 5}, {complex(minusZero, minusZero), 0, 0, 0}, {1 + 1i, 0x1.6a09e667f3bccp0, 0x1.6a09e667f3bcdp0, 0x1.6a09e667f3bcdp0},
		{complex(greatest, greatest), greatest, inf, inf}, {complex(least, least), least, least, 2 * least}, {complex(nan, -inf), inf, inf, inf}, {complex(nan, 1), nan, nan, nan},
	} {
		for i, mode := range modes {
			checkFloat(t, arith.Abs(c.z, mode), [3]float64{c.down, c.near, c.up}[i], "Abs", c.z, mode)
		}
	}
}

// wantNorm is AR2's Norm, word by word.
func wantNorm(z complex128, mode int) float64 {
	x, y := real(z), imag(z)
	switch {
	case math.IsInf(x, 0) || math.IsInf(y, 0):
		return inf
	case x != x || y != y:
		return nan
	case x == 0 && y == 0:
		return 0
	}
	return rounded(plus(times(exact(x), exact(x)), times(exact(y), exact(y))), mode)
}

// TestAR2Norm: one rounding, infinities ahead of NaNs.
func TestAR2Norm(t *testing.T) {
	for _, c := range []struct {
		z              complex128
		down, near, up float64
	}{
		{3 + 4i, 25, 25, 25}, {-3 + 4i, 25, 25, 25}, {0, 0, 0, 0}, {complex(minusZero, minusZero), 0, 0, 0}, {complex(0, minusZero), 0, 0, 0},
		{complex(1, 0x1p-40), 1, 1, afterOne},
		{complex(0x1p27, 1), 0x1p54, 0x1p54, 0x1p54 + 4},
		{complex(greatest, 0), greatest, inf, inf}, {complex(0x1p512, least), greatest, inf, inf},
		{complex(least, least), 0, 0, least}, {complex(0x1p-538, 0x1p-538), 0, 0, least}, {complex(0x1p-537, 0), least, least, least},
		{complex(inf, nan), inf, inf, inf}, {complex(nan, -inf), inf, inf, inf}, {complex(-inf, 0), inf, inf, inf}, {complex(nan, 0), nan, nan, nan}, {complex(0, nan), nan, nan, nan},
	} {
		for i, mode := range modes {
			checkFloat(t, arith.Norm(c.z, mode), [3]float64{c.down, c.near, c.up}[i], "Norm", c.z, mode)
		}
	}
	all := pairs(edges())
	r := numbers{seed: 704}
	for range 3000 {
		all = append(all, r.value())
	}
	for _, z := range all {
		for _, mode := range modes {
			checkFloat(t, arith.Norm(z, mode), wantNorm(z, mode), "Norm", z, mode)
		}
	}
}
