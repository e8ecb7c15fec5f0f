package round_test

import (
	"math"
	"math/big"
	"testing"

	"cusp/api"
	"cusp/round"
)

// scaledUp is a float times 2^1074: a whole number.
func scaledUp(f float64) *big.Int {
	n, _ := times(wide(f), times(wide(0x1p1000), wide(0x1p74))).Int(nil)
	return n
}

// scaledDown is a whole number divided by 2^1074, and whether it is a float.
func scaledDown(n *big.Int) (float64, bool) {
	x := new(big.Float).SetInt(n)
	x.SetMantExp(x, -1074)
	f, how := x.Float64()
	return f, how == big.Exact
}

// nearest is the whole number nearest to a quotient, of two the even one; beneath is the greatest one that is not above it.
func nearest(a, b *big.Int) (near, beneath *big.Int) {
	if b.Sign() < 0 {
		a, b = new(big.Int).Neg(a), new(big.Int).Neg(b)
	}
	n, rest := new(big.Int).DivMod(a, b, new(big.Int))
	above := new(big.Int).Add(n, big.NewInt(1))
	c := rest.Lsh(rest, 1).Cmp(b)
	if c > 0 || c == 0 && n.Bit(0) == 1 {
		return above, n
	}
	return n, n
}

// wantWhole and wantRest are RN5, word by word.
func wantWhole(a float64, mode int) float64 {
	if !finite(a) {
		return a
	}
	units := new(big.Int).Lsh(big.NewInt(1), 1074)
	n, beneath := nearest(scaledUp(a), units)
	switch whole := new(big.Int).Mul(beneath, units); {
	case mode == api.Down:
		n = beneath
	case mode == api.Up && whole.Cmp(scaledUp(a)) == 0:
		n = beneath
	case mode == api.Up:
		n = new(big.Int).Add(beneath, big.NewInt(1))
	}
	f, _ := new(big.Float).SetInt(n).Float64()
	return math.Copysign(f, a)
}

func wantRest(t *testing.T, a, b float64) float64 {
	switch {
	case a != a || b != b || math.IsInf(a, 0) || b == 0:
		return nan
	case math.IsInf(b, 0):
		return a
	}
	x, y := scaledUp(a), scaledUp(b)
	n, _ := nearest(x, y)
	left, exact := scaledDown(x.Sub(x, n.Mul(n, y)))
	if !exact {
		t.Errorf("what is left of %x by %x is no float", a, b)
	}
	if left == 0 {
		return math.Copysign(0, a)
	}
	return left
}

func checkWhole(t *testing.T, a float64) {
	t.Helper()
	for _, mode := range modes {
		check(t, round.Whole(a, mode), wantWhole(a, mode), "Whole", mode, a)
	}
}

func checkRest(t *testing.T, a, b float64) {
	t.Helper()
	check(t, round.Rest(a, b), wantRest(t, a, b), "Rest", 0, a, b)
}

// TestRN5WholeCases: whole numbers that the document names, written out.
func TestRN5WholeCases(t *testing.T) {
	cases := []struct {
		a    float64
		want byMode
	}{
		{0.5, byMode{0, 0, 1}}, {-0.5, byMode{-1, minusZero, minusZero}},
		{1.5, byMode{1, 2, 2}}, {-1.5, byMode{-2, -2, -1}},
		{2.5, byMode{2, 2, 3}}, {-2.5, byMode{-3, -2, -2}},
		{3.5, byMode{3, 4, 4}}, {-3.5, byMode{-4, -4, -3}},
		{0x1.fffffffffffffp-2, byMode{0, 0, 1}}, {0x1.0000000000001p-1, byMode{0, 1, 1}},
		{-0x1.fffffffffffffp-2, byMode{-1, minusZero, minusZero}}, {-0x1.0000000000001p-1, byMode{-1, -1, minusZero}},
		{0x1.3ffffffffffffp1, byMode{2, 2, 3}}, {0x1.4000000000001p1, byMode{2, 3, 3}},
		{0.3, byMode{0, 0, 1}}, {-0.3, byMode{-1, minusZero, minusZero}}, {2.7, byMode{2, 3, 3}}, {-2.7, byMode{-3, -3, -2}},
		{beforeOne, byMode{0, 1, 1}}, {-beforeOne, byMode{-1, -1, minusZero}}, {afterOne, byMode{1, 1, 2}},
		{least, byMode{0, 0, 1}}, {-least, byMode{-1, minusZero, minusZero}}, {topSmall, byMode{0, 0, 1}}, {-leastNormal, byMode{-1, minusZero, minusZero}},
		{0x1p52 - 0.5, byMode{0x1p52 - 1, 0x1p52, 0x1p52}}, {0x1p52 - 1.5, byMode{0x1p52 - 2, 0x1p52 - 2, 0x1p52 - 1}},
		{-0x1p52 + 0.5, byMode{-0x1p52, -0x1p52, -0x1p52 + 1}},
		{1, all(1)}, {-7, all(-7)}, {0x1p52 + 1, all(0x1p52 + 1)}, {-0x1p53 - 2, all(-0x1p53 - 2)}, {0x1p63, all(0x1p63)}, {greatest, all(greatest)}, {-greatest, all(-greatest)},
		{0, all(0)}, {minusZero, all(minusZero)}, {inf, all(inf)}, {-inf, all(-inf)}, {nan, all(nan)},
	}
	for _, c := range cases {
		for _, mode := range modes {
			check(t, round.Whole(c.a, mode), c.want.in(mode), "Whole", mode, c.a)
		}
		checkWhole(t, c.a)
	}
	for _, n := range nans() {
		checkWhole(t, n)
	}
}

// TestRN5RestCases: what is left in cases that the document names, written out.
func TestRN5RestCases(t *testing.T) {
	for _, c := range []struct{ a, b, want float64 }{
		{5, 3, -1}, {-5, 3, 1}, {5, -3, -1}, {-5, -3, 1}, {4, 3, 1}, {-4, 3, -1}, {10, 4, 2},
		// halfway: of two the even one
		{1, 2, 1}, {3, 2, -1}, {5, 2, 1}, {7, 2, -1}, {-1, 2, -1}, {-3, 2, 1}, {-5, 2, -1}, {5, -2, 1}, {7, -2, -1}, {-7, -2, 1},
		{least, 2 * least, least}, {3 * least, 2 * least, -least}, {greatest / 2, greatest, greatest / 2}, {-0x1.8p1023, 0x1p1023, 0x1p1022},
		// beside halfway
		{afterOne, 2, afterOne - 2}, {beforeOne, 2, beforeOne}, {-afterOne, 2, 2 - afterOne}, {0x1.4000000000001p2, 2, -1 + 0x1p-50},
		// nothing is left: a's sign
		{6, 3, 0}, {-6, 3, minusZero}, {6, -3, 0}, {-6, -3, minusZero}, {greatest, greatest, 0}, {-greatest, least, minusZero}, {greatest, -least, 0},
		{0, 3, 0}, {minusZero, 3, minusZero}, {0, -least, 0}, {minusZero, -greatest, minusZero},
		// small against great
		{1, 5, 1}, {-2, 5, -2}, {3, 5, -2}, {least, greatest, least}, {-least, -greatest, -least},
		// very great quotients: 2^k less what threes hold of it
		{0x1p1000, 3, 1}, {0x1p1001, 3, -1}, {-0x1p1001, 3, 1}, {0x1p1023, 3 * least, -least}, {0x1p1022, 3 * least, least}, {greatest, 3 * least, -least}, {beforeTop, 3 * least, 0}, {1e300, 7, 1},
		// infinities
		{5, inf, 5}, {5, -inf, 5}, {minusZero, inf, minusZero}, {-greatest, -inf, -greatest}, {0, inf, 0}, {least, inf, least},
		{inf, 2, nan}, {-inf, 2, nan}, {inf, inf, nan}, {-inf, inf, nan}, {inf, 0, nan},
		{1, 0, nan}, {1, minusZero, nan}, {0, 0, nan}, {minusZero, minusZero, nan},
		{nan, 1, nan}, {1, nan, nan}, {nan, nan, nan}, {nan, inf, nan}, {inf, nan, nan}, {nan, 0, nan}, {0, nan, nan},
	} {
		check(t, round.Rest(c.a, c.b), c.want, "Rest", 0, c.a, c.b)
		checkRest(t, c.a, c.b)
	}
}

func TestRN5P6Edges(t *testing.T) {
	list := append(edges(), nans()...)
	for _, a := range list {
		checkWhole(t, a)
		for _, b := range list {
			checkRest(t, a, b)
		}
	}
}

func TestRN5P6Many(t *testing.T) {
	r := numbers{6}
	for range 6000 {
		a, b := r.float(), r.float()
		checkWhole(t, a)
		checkWhole(t, math.Ldexp(float64(r.below(1<<20)), -2)*math.Copysign(1, a))
		checkRest(t, a, b)
		checkRest(t, a, math.Ldexp(b, math.Ilogb(a)-math.Ilogb(b)-r.below(60)))
		// Halves of b, many of them, and beside.
		halves := float64(r.below(1<<20)) * b / 2
		checkRest(t, halves, b)
		checkRest(t, math.Nextafter(halves, inf), b)
		checkRest(t, math.Nextafter(halves, -inf), b)
	}
}
