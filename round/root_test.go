package round_test

import (
	"math"
	"testing"

	"cusp/api"
	"cusp/round"
)

// wantSqrt, wantFma and wantHypot are RN4, word by word.
func wantSqrt(a float64, mode int) float64 {
	switch {
	case a == 0:
		return a
	case a != a || a < 0:
		return nan
	case math.IsInf(a, 1):
		return inf
	}
	return rounded(rootOf(wide(a)), mode)
}

func wantFma(a, b, c float64, mode int) float64 {
	switch {
	case a != a || b != b || c != c:
		return nan
	case math.IsInf(a, 0) && b == 0, math.IsInf(b, 0) && a == 0:
		return nan
	case math.IsInf(a, 0), math.IsInf(b, 0):
		product := math.Copysign(inf, signOf(a, b))
		if c == -product {
			return nan
		}
		return product
	case math.IsInf(c, 0):
		return c
	}
	product := times(wide(a), wide(b))
	sum := plus(product, wide(c))
	switch {
	case sum.Sign() != 0:
		return rounded(number(sum), mode)
	case product.Sign() == 0:
		return wantNought(math.Copysign(0, signOf(a, b)), c, mode)
	case mode == api.Down:
		return minusZero
	}
	return 0
}

func wantHypot(a, b float64, mode int) float64 {
	switch {
	case math.IsInf(a, 0), math.IsInf(b, 0):
		return inf
	case a != a || b != b:
		return nan
	case a == 0 && b == 0:
		return 0
	}
	return rounded(rootOf(plus(times(wide(a), wide(a)), times(wide(b), wide(b)))), mode)
}

func checkSqrt(t *testing.T, a float64) {
	t.Helper()
	for _, mode := range modes {
		check(t, round.Sqrt(a, mode), wantSqrt(a, mode), "Sqrt", mode, a)
	}
	if got := round.Sqrt(a, api.Near); !same(got, math.Sqrt(a)) {
		t.Errorf("Sqrt(%x, Near) = %x, the machine's %x", a, got, math.Sqrt(a))
	}
}

func checkFma(t *testing.T, a, b, c float64) {
	t.Helper()
	for _, mode := range modes {
		check(t, round.Fma(a, b, c, mode), wantFma(a, b, c, mode), "Fma", mode, a, b, c)
	}
	if got := round.Fma(a, b, c, api.Near); !same(got, math.FMA(a, b, c)) {
		t.Errorf("Fma(%x, %x, %x, Near) = %x, the machine's %x", a, b, c, got, math.FMA(a, b, c))
	}
}

func checkHypot(t *testing.T, a, b float64) {
	t.Helper()
	for _, mode := range modes {
		check(t, round.Hypot(a, b, mode), wantHypot(a, b, mode), "Hypot", mode, a, b)
	}
}

// TestRN4SqrtCases: roots that the document names, written out.
func TestRN4SqrtCases(t *testing.T) {
	cases := []struct {
		a    float64
		want byMode
	}{
		{4, all(2)}, {2.25, all(1.5)}, {1, all(1)},
		{2, byMode{0x1.6a09e667f3bccp0, 0x1.6a09e667f3bcdp0, 0x1.6a09e667f3bcdp0}},
		{3, byMode{0x1.bb67ae8584caap0, 0x1.bb67ae8584caap0, 0x1.bb67ae8584cabp0}},
		// beside a float, and beside halfway
		{afterOne, byMode{1, 1, afterOne}},
		{1 + 0x1p-51, byMode{1, afterOne, afterOne}},
		{beforeOne, byMode{beforeOne, beforeOne, 1}},
		{0x1p52 + 1, byMode{0x1p26, 0x1p26, 0x1p26 + 0x1p-26}},
		{least, all(0x1p-537)}, {2 * least, byMode{0x1.6a09e667f3bccp-537, 0x1.6a09e667f3bcdp-537, 0x1.6a09e667f3bcdp-537}},
		{leastNormal, all(0x1p-511)}, {topSmall, byMode{0x1.ffffffffffffep-512, 0x1.fffffffffffffp-512, 0x1.fffffffffffffp-512}},
		{greatest, byMode{0x1.fffffffffffffp511, 0x1.fffffffffffffp511, 0x1p512}},
		{0x1p1022, all(0x1p511)},
		{0, all(0)}, {minusZero, all(minusZero)},
		{inf, all(inf)}, {-inf, all(nan)}, {-1, all(nan)}, {-least, all(nan)}, {-greatest, all(nan)}, {-leastNormal, all(nan)},
	}
	for _, c := range cases {
		for _, mode := range modes {
			check(t, round.Sqrt(c.a, mode), c.want.in(mode), "Sqrt", mode, c.a)
		}
		checkSqrt(t, c.a)
	}
}

// TestRN4FmaCases: a product and a sum that the document names, written out.
func TestRN4FmaCases(t *testing.T) {
	cancelled := byMode{minusZero, 0, 0}
	cases := []struct {
		a, b, c float64
		want    byMode
	}{
		{2, 3, 4, all(10)}, {-2, 3, 4, all(-2)},
		{afterOne, afterOne, -1, byMode{0x1p-51, 0x1p-51, 0x1.0000000000001p-51}},
		{afterOne, afterOne, -1 - 0x1p-51, all(0x1p-104)}, // what rounding twice would lose
		{0.1, 10, -1, all(0x1p-54)},
		{greatest, 2, -greatest, all(greatest)}, // the product alone is beyond the greatest one
		{greatest, greatest, -greatest, byMode{greatest, inf, inf}},
		{0x1p600, 0x1p424, -0x1p1000, all(0x1.fffffep1023)},
		{-0x1p600, 0x1p424, topUnit, all(-greatest)},
		{-0x1p600, 0x1p424, topUnit / 2, byMode{-inf, -inf, -greatest}},
		{0x1p600, 0x1p424, -0x1.0000000000001p970, byMode{greatest, greatest, inf}},
		// halfway, and just beside by a third number
		{0x1p27 + 1, 0x1p26 + 1, 0, byMode{0x1p53 + 0x3p26, 0x1p53 + 0x3p26, 0x1p53 + 0x3p26 + 2}},
		{0x1p27 + 1, 0x1p26 + 1, least, byMode{0x1p53 + 0x3p26, 0x1p53 + 0x3p26 + 2, 0x1p53 + 0x3p26 + 2}},
		{0x1p27 + 1, 0x1p26 + 1, -least, byMode{0x1p53 + 0x3p26, 0x1p53 + 0x3p26, 0x1p53 + 0x3p26 + 2}},
		{0x1p27 + 3, 0x1p26 + 1, -least, byMode{0x1p53 + 0x5p26 + 2, 0x1p53 + 0x5p26 + 2, 0x1p53 + 0x5p26 + 4}},
		{least, least, 1, byMode{1, 1, afterOne}},
		{-least, least, 1, byMode{beforeOne, 1, 1}},
		{least, least, greatest, byMode{greatest, greatest, inf}},
		// below the least one
		{least, least, 0, byMode{0, 0, least}},
		{least, -least, 0, byMode{-least, minusZero, minusZero}},
		{least, -least, minusZero, byMode{-least, minusZero, minusZero}},
		{least, 0.5, 0, byMode{0, 0, least}},
		{least, 0.5, least, byMode{least, 2 * least, 2 * least}},
		{least, -0.5, least, byMode{0, 0, least}},
		{least, 0.5, -least, byMode{-least, minusZero, minusZero}},
		{0x1p-538, 0x1.0000000000001p-537, 0, byMode{0, least, least}},
		// 0 of a product that is none
		{3, 4, -12, cancelled}, {-3, 4, 12, cancelled}, {0x1p-537, 0x1p-537, -least, cancelled}, {-1, greatest, greatest, cancelled},
		// 0 of noughts
		{0, 5, 0, all(0)}, {0, 5, minusZero, cancelled}, {0, -5, 0, cancelled}, {0, -5, minusZero, all(minusZero)},
		{minusZero, 5, minusZero, all(minusZero)}, {-5, minusZero, 0, all(0)}, {minusZero, minusZero, minusZero, cancelled},
		{0, 0, 0, all(0)}, {0, minusZero, minusZero, all(minusZero)}, {0, minusZero, 0, cancelled},
		{0, greatest, -least, all(-least)}, {minusZero, 1, greatest, all(greatest)},
		// infinities
		{inf, 2, 1, all(inf)}, {inf, -2, 1, all(-inf)}, {-inf, -inf, inf, all(inf)}, {2, -inf, -inf, all(-inf)},
		{inf, 2, -inf, all(nan)}, {-inf, 2, inf, all(nan)}, {-2, inf, inf, all(nan)}, {-inf, -inf, -inf, all(nan)},
		{inf, 0, 1, all(nan)}, {minusZero, -inf, 1, all(nan)}, {inf, 0, inf, all(nan)}, {0, inf, -inf, all(nan)},
		{inf, 2, -greatest, all(inf)}, {1, 2, -inf, all(-inf)}, {0, 0, inf, all(inf)}, {0, minusZero, -inf, all(-inf)},
		// a finite product beyond the greatest float is no infinity
		{greatest, greatest, -inf, all(-inf)}, {-greatest, 2, inf, all(inf)}, {greatest, 2, inf, all(inf)},
	}
	for _, c := range cases {
		for _, mode := range modes {
			check(t, round.Fma(c.a, c.b, c.c, mode), c.want.in(mode), "Fma", mode, c.a, c.b, c.c)
		}
		checkFma(t, c.a, c.b, c.c)
	}
}

// TestRN4HypotCases: roots of sums of squares that the document names, written out.
func TestRN4HypotCases(t *testing.T) {
	// A right triangle of whole sides, the longest with 54 binary digits: halfway between two floats.
	m, n := 80000001.0, 60000000.0
	legA, legB, long := int64(m*m-n*n), int64(2*m*n), int64(m)*int64(m)+int64(n)*int64(n)
	cases := []struct {
		a, b float64
		want byMode
	}{
		{3, 4, all(5)}, {-3, 4, all(5)}, {5, -12, all(13)}, {-8, -15, all(17)},
		{1, 1, byMode{0x1.6a09e667f3bccp0, 0x1.6a09e667f3bcdp0, 0x1.6a09e667f3bcdp0}},
		{float64(legA), float64(legB), byMode{float64(long - 1), float64(long - 1 + (long-1)%4), float64(long + 1)}},
		// beside a float
		{1, 0x1p-30, byMode{1, 1, afterOne}},
		{1, least, byMode{1, 1, afterOne}},
		{greatest, least, byMode{greatest, greatest, inf}},
		{greatest, 0x1p997, byMode{greatest, greatest, inf}},
		{greatest, 0x1p998, byMode{greatest, inf, inf}},
		// beyond the greatest finite float
		{greatest, greatest, byMode{greatest, inf, inf}},
		{-greatest, 0x1p1023, byMode{greatest, inf, inf}},
		{0x1.6a09e667f3bccp1023, 0x1.6a09e667f3bccp1023, byMode{greatest, greatest, inf}},
		{0x1.6a09e667f3bcdp1023, 0x1.6a09e667f3bcdp1023, byMode{greatest, inf, inf}},
		// squares beyond the greatest float, and below the least one
		{0x3p600, 0x4p600, all(0x5p600)}, {0x3p-1073, 0x4p-1073, all(0x5p-1073)}, {0x1p-600, 0, all(0x1p-600)},
		{least, least, byMode{least, least, 2 * least}},
		{least, 2 * least, byMode{2 * least, 2 * least, 3 * least}},
		{-3 * least, 4 * least, all(5 * least)},
		{leastNormal, least, byMode{leastNormal, leastNormal, leastNormal + least}},
		// noughts
		{0, 0, all(0)}, {0, minusZero, all(0)}, {minusZero, 0, all(0)}, {minusZero, minusZero, all(0)},
		{0, -7, all(7)}, {-least, minusZero, all(least)}, {0, -greatest, all(greatest)},
		// infinities, ahead of NaN
		{inf, 1, all(inf)}, {-inf, 1, all(inf)}, {0, -inf, all(inf)}, {inf, -inf, all(inf)}, {-inf, -inf, all(inf)},
		{inf, nan, all(inf)}, {nan, -inf, all(inf)}, {-inf, nan, all(inf)},
		{nan, 1, all(nan)}, {0, nan, all(nan)}, {nan, nan, all(nan)},
	}
	for _, c := range cases {
		for _, mode := range modes {
			check(t, round.Hypot(c.a, c.b, mode), c.want.in(mode), "Hypot", mode, c.a, c.b)
		}
		checkHypot(t, c.a, c.b)
	}
}

func TestRN4NaN(t *testing.T) {
	for _, n := range nans() {
		for _, mode := range modes {
			check(t, round.Sqrt(n, mode), nan, "Sqrt", mode, n)
			for _, f := range edges() {
				for _, g := range corners() {
					check(t, round.Fma(n, f, g, mode), nan, "Fma", mode, n, f, g)
					check(t, round.Fma(f, n, g, mode), nan, "Fma", mode, f, n, g)
					check(t, round.Fma(f, g, n, mode), nan, "Fma", mode, f, g, n)
				}
				check(t, round.Hypot(n, f, mode), wantHypot(n, f, mode), "Hypot", mode, n, f)
				check(t, round.Hypot(f, n, mode), wantHypot(f, n, mode), "Hypot", mode, f, n)
			}
			check(t, round.Fma(n, n, n, mode), nan, "Fma", mode, n, n, n)
			check(t, round.Hypot(n, n, mode), nan, "Hypot", mode, n, n)
		}
	}
}

func TestRN4P6Edges(t *testing.T) {
	for _, a := range edges() {
		checkSqrt(t, a)
		for _, b := range edges() {
			checkHypot(t, a, b)
		}
	}
	for _, a := range corners() {
		for _, b := range corners() {
			for _, c := range corners() {
				checkFma(t, a, b, c)
			}
		}
	}
}

func TestRN4P6Many(t *testing.T) {
	r := numbers{4}
	for range 4000 {
		a, b, c := r.float(), r.float(), r.float()
		checkSqrt(t, math.Abs(a))
		checkSqrt(t, a*a)
		checkSqrt(t, math.Nextafter(a*a, inf))
		checkFma(t, a, b, c)
		checkFma(t, a, b, -a*b) // what the product's rounding loses
		checkFma(t, a, b, -a*b*(1+0x1p-52*float64(r.below(5))))
		checkHypot(t, a, b)
		checkHypot(t, a, a*math.Ldexp(1+float64(r.below(8))/8, -r.below(60)))
	}
}

// TestRN4Triangles: right triangles of whole sides, whose longest side has up to 55 binary digits: a float, or halfway, or beside it.
func TestRN4Triangles(t *testing.T) {
	r := numbers{5}
	for range 2000 {
		m := int64(r.below(1<<26)) + 1<<26
		n := int64(r.below(int(m)))
		checkHypot(t, float64(m*m-n*n), float64(2*m*n))
		checkHypot(t, float64((m*m-n*n)/4*4), float64(2*m*n)) // the second one is no triangle's
	}
}
