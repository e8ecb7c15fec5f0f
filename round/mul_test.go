package round_test

import (
	"math"
	"testing"

	"cusp/api"
	"cusp/round"
)

// signOf is 1 with the sign of both signs.
func signOf(a, b float64) float64 { return math.Copysign(1, a) * math.Copysign(1, b) }

// wantMul is RN3, word by word.
func wantMul(a, b float64, mode int) float64 {
	switch {
	case a != a || b != b:
		return nan
	case math.IsInf(a, 0) && b == 0, math.IsInf(b, 0) && a == 0:
		return nan
	case math.IsInf(a, 0), math.IsInf(b, 0):
		return math.Copysign(inf, signOf(a, b))
	case a == 0, b == 0:
		return math.Copysign(0, signOf(a, b))
	}
	return rounded(number(times(wide(a), wide(b))), mode)
}

func wantDiv(a, b float64, mode int) float64 {
	switch {
	case a != a || b != b:
		return nan
	case math.IsInf(a, 0) && math.IsInf(b, 0), a == 0 && b == 0:
		return nan
	case math.IsInf(a, 0), b == 0:
		return math.Copysign(inf, signOf(a, b))
	case a == 0, math.IsInf(b, 0):
		return math.Copysign(0, signOf(a, b))
	}
	return rounded(quotient(a, b), mode)
}

func checkMul(t *testing.T, a, b float64) {
	t.Helper()
	for _, mode := range modes {
		check(t, round.Mul(a, b, mode), wantMul(a, b, mode), "Mul", mode, a, b)
	}
	if got := round.Mul(a, b, api.Near); !same(got, a*b) {
		t.Errorf("Mul(%x, %x, Near) = %x, the machine's %x", a, b, got, a*b)
	}
}

func checkDiv(t *testing.T, a, b float64) {
	t.Helper()
	for _, mode := range modes {
		check(t, round.Div(a, b, mode), wantDiv(a, b, mode), "Div", mode, a, b)
	}
	if got := round.Div(a, b, api.Near); !same(got, a/b) {
		t.Errorf("Div(%x, %x, Near) = %x, the machine's %x", a, b, got, a/b)
	}
}

// TestRN3MulCases: products that the document names, written out.
func TestRN3MulCases(t *testing.T) {
	cases := []struct {
		a, b float64
		want byMode
	}{
		{6, 7, all(42)}, {-6, 7, all(-42)}, {-6, -7, all(42)},
		{0.1, 3, byMode{0.3, 0.30000000000000004, 0.30000000000000004}},
		{-0.1, 3, byMode{-0.30000000000000004, -0.30000000000000004, -0.3}},
		// halfway: 54 binary digits, the last one set
		{0x1p27 + 1, 0x1p26 + 1, byMode{0x1p53 + 0x1p27 + 0x1p26, 0x1p53 + 0x1p27 + 0x1p26, 0x1p53 + 0x1p27 + 0x1p26 + 2}},
		{0x1p27 + 3, 0x1p26 + 1, byMode{0x1p53 + 0x1p27 + 0x3p26 + 2, 0x1p53 + 0x1p27 + 0x3p26 + 4, 0x1p53 + 0x1p27 + 0x3p26 + 4}},
		// beside a float
		{afterOne, afterOne, byMode{1 + 0x1p-51, 1 + 0x1p-51, 1 + 0x3p-52}},
		{beforeOne, beforeOne, byMode{1 - 0x1p-52, 1 - 0x1p-52, beforeOne}},
		{afterOne, beforeOne, byMode{1, 1, afterOne}},
		{1, greatest, all(greatest)},
		// beyond the greatest finite float
		{0x1p512, 0x1p512, byMode{greatest, inf, inf}},
		{-0x1p512, 0x1p512, byMode{-inf, -inf, -greatest}},
		{greatest, afterOne, byMode{greatest, inf, inf}},
		{greatest, -afterOne, byMode{-inf, -inf, -greatest}},
		{greatest, greatest, byMode{greatest, inf, inf}},
		{0x1p1023, 0x1.fffffffffffffp0, all(greatest)},
		// below the least one, of either sign
		{least, least, byMode{0, 0, least}},
		{-least, least, byMode{-least, minusZero, minusZero}},
		{least, 0.5, byMode{0, 0, least}},
		{least, -0.5, byMode{-least, minusZero, minusZero}},
		{least, 0x1.0000000000001p-1, byMode{0, least, least}},
		{-least, 0x1.0000000000001p-1, byMode{-least, -least, minusZero}},
		{least, 0x1.fffffffffffffp-2, byMode{0, 0, least}},
		{3 * least, 0.5, byMode{least, 2 * least, 2 * least}},
		{5 * least, 0.5, byMode{2 * least, 2 * least, 3 * least}},
		{0x1p-537, 0x1p-537, all(least)},
		{0x1p-538, 0x1p-537, byMode{0, 0, least}},
		{leastNormal, beforeOne, byMode{topSmall, leastNormal, leastNormal}},
		{leastNormal, 0.5, all(leastNormal / 2)},
		// far apart
		{greatest, least, all(0x1.fffffffffffffp-51)},
		// noughts and infinities
		{0, 5, all(0)}, {minusZero, 5, all(minusZero)}, {-5, 0, all(minusZero)}, {-least, minusZero, all(0)},
		{0, 0, all(0)}, {0, minusZero, all(minusZero)}, {minusZero, 0, all(minusZero)}, {minusZero, minusZero, all(0)},
		{inf, 2, all(inf)}, {-2, inf, all(-inf)}, {-inf, -least, all(inf)}, {greatest, -inf, all(-inf)},
		{inf, inf, all(inf)}, {inf, -inf, all(-inf)}, {-inf, inf, all(-inf)}, {-inf, -inf, all(inf)},
		{inf, 0, all(nan)}, {inf, minusZero, all(nan)}, {0, -inf, all(nan)}, {minusZero, -inf, all(nan)},
	}
	for _, c := range cases {
		for _, mode := range modes {
			check(t, round.Mul(c.a, c.b, mode), c.want.in(mode), "Mul", mode, c.a, c.b)
		}
		checkMul(t, c.a, c.b)
	}
}

// TestRN3DivCases: quotients that the document names, written out.
func TestRN3DivCases(t *testing.T) {
	third := 0.3333333333333333
	cases := []struct {
		a, b float64
		want byMode
	}{
		{6, 3, all(2)}, {-6, 3, all(-2)}, {-6, -3, all(2)}, {1, 4, all(0.25)},
		{1, 3, byMode{third, third, 0x1.5555555555556p-2}},
		{-1, 3, byMode{-0x1.5555555555556p-2, -third, -third}},
		{1, -3, byMode{-0x1.5555555555556p-2, -third, -third}},
		{2, 3, byMode{0x1.5555555555555p-1, 0x1.5555555555555p-1, 0x1.5555555555556p-1}},
		{5, 3, byMode{0x1.aaaaaaaaaaaaap0, 0x1.aaaaaaaaaaaabp0, 0x1.aaaaaaaaaaaabp0}},
		// beside a float
		{1, afterOne, byMode{1 - 0x1p-52, 1 - 0x1p-52, beforeOne}},
		{1, beforeOne, byMode{1, afterOne, afterOne}}, // beside halfway
		{afterOne, beforeOne, byMode{1 + 0x1p-52, 1 + 0x1p-51, 1 + 0x1p-51}},
		// beyond the greatest finite float
		{greatest, 0.5, byMode{greatest, inf, inf}},
		{-greatest, 0.5, byMode{-inf, -inf, -greatest}},
		{greatest, beforeOne, byMode{greatest, inf, inf}},
		{1, least, byMode{greatest, inf, inf}},
		{greatest, -least, byMode{-inf, -inf, -greatest}},
		{0x1p1023, 0x1p-1, byMode{greatest, inf, inf}},
		// below the least one; halfway
		{least, greatest, byMode{0, 0, least}},
		{-least, greatest, byMode{-least, minusZero, minusZero}},
		{least, 2, byMode{0, 0, least}},
		{least, -2, byMode{-least, minusZero, minusZero}},
		{3 * least, 2, byMode{least, 2 * least, 2 * least}},
		{5 * least, -2, byMode{-3 * least, -2 * least, -2 * least}},
		{least, 3, byMode{0, 0, least}},
		{2 * least, 3, byMode{0, least, least}},
		{least, 0x1.fffffffffffffp0, byMode{0, least, least}},
		{least, 0x1.0000000000001p1, byMode{0, 0, least}},
		{leastNormal, 2, all(leastNormal / 2)},
		{leastNormal, afterOne, byMode{topSmall, topSmall, leastNormal}},
		{least, least, all(1)}, {greatest, greatest, all(1)}, {greatest, -1, all(-greatest)},
		// noughts and infinities
		{0, 3, all(0)}, {minusZero, 3, all(minusZero)}, {0, -least, all(minusZero)}, {minusZero, -greatest, all(0)},
		{3, 0, all(inf)}, {3, minusZero, all(-inf)}, {-least, 0, all(-inf)}, {-greatest, minusZero, all(inf)},
		{0, 0, all(nan)}, {0, minusZero, all(nan)}, {minusZero, 0, all(nan)}, {minusZero, minusZero, all(nan)},
		{inf, inf, all(nan)}, {inf, -inf, all(nan)}, {-inf, inf, all(nan)}, {-inf, -inf, all(nan)},
		{inf, 3, all(inf)}, {-inf, greatest, all(-inf)}, {-inf, -least, all(inf)}, {inf, 0, all(inf)}, {inf, minusZero, all(-inf)},
		{3, inf, all(0)}, {-greatest, inf, all(minusZero)}, {0, inf, all(0)}, {0, -inf, all(minusZero)}, {minusZero, -inf, all(0)},
	}
	for _, c := range cases {
		for _, mode := range modes {
			check(t, round.Div(c.a, c.b, mode), c.want.in(mode), "Div", mode, c.a, c.b)
		}
		checkDiv(t, c.a, c.b)
	}
}

func TestRN3NaN(t *testing.T) {
	for _, n := range nans() {
		for _, f := range append(edges(), nans()...) {
			for _, mode := range modes {
				check(t, round.Mul(n, f, mode), nan, "Mul", mode, n, f)
				check(t, round.Mul(f, n, mode), nan, "Mul", mode, f, n)
				check(t, round.Div(n, f, mode), nan, "Div", mode, n, f)
				check(t, round.Div(f, n, mode), nan, "Div", mode, f, n)
			}
		}
	}
}

func TestRN3P6Edges(t *testing.T) {
	for _, a := range edges() {
		for _, b := range edges() {
			checkMul(t, a, b)
			checkDiv(t, a, b)
		}
	}
}

func TestRN3P6Many(t *testing.T) {
	r := numbers{3}
	for range 4000 {
		a, b := r.float(), r.float()
		checkMul(t, a, b)
		checkDiv(t, a, b)
		checkDiv(t, a*b, b) // at or beside a float
		// Products and quotients around the least floats.
		checkMul(t, a, math.Ldexp(b, r.below(60)-1100-math.Ilogb(a)-math.Ilogb(b)))
		checkDiv(t, math.Ldexp(a, r.below(60)-1040-math.Ilogb(a)), math.Ldexp(b, r.below(70)-math.Ilogb(b)))
	}
}
