package round_test

import (
	"math"
	"testing"

	"cusp/api"
	"cusp/round"
)

// wantAdd is RN2, word by word.
func wantAdd(a, b float64, mode int) float64 {
	switch {
	case a != a || b != b:
		return nan
	case math.IsInf(a, 0) && math.IsInf(b, 0) && a != b:
		return nan
	case math.IsInf(a, 0):
		return a
	case math.IsInf(b, 0):
		return b
	}
	sum := plus(wide(a), wide(b))
	if sum.Sign() == 0 {
		return wantNought(a, b, mode)
	}
	return rounded(number(sum), mode)
}

// wantNought is the nought of a sum that is 0.
func wantNought(a, b float64, mode int) float64 {
	bothMinus := same(a, minusZero) && same(b, minusZero)
	bothPlus := same(a, 0) && same(b, 0)
	if bothMinus || mode == api.Down && !bothPlus {
		return minusZero
	}
	return 0
}

func checkAdd(t *testing.T, a, b float64) {
	t.Helper()
	for _, mode := range modes {
		check(t, round.Add(a, b, mode), wantAdd(a, b, mode), "Add", mode, a, b)
		check(t, round.Sub(a, b, mode), wantAdd(a, -b, mode), "Sub", mode, a, b)
	}
	if got := round.Add(a, b, api.Near); !same(got, a+b) {
		t.Errorf("Add(%x, %x, Near) = %x, the machine's %x", a, b, got, a+b)
	}
}

// TestRN2AddCases: sums that the document names, written out.
func TestRN2AddCases(t *testing.T) {
	cases := []struct {
		a, b float64
		want byMode
	}{
		{1, 2, all(3)},
		{0.1, 0.2, byMode{0.3, 0.30000000000000004, 0.30000000000000004}},
		{1, 0x1p-60, byMode{1, 1, afterOne}},
		{1, -0x1p-60, byMode{beforeOne, 1, 1}},
		{-1, 0x1p-60, byMode{-1, -1, -beforeOne}},
		{1, least, byMode{1, 1, afterOne}},
		{greatest, least, byMode{greatest, greatest, inf}},
		{greatest, -least, byMode{beforeTop, greatest, greatest}},
		// halfway, and just beside
		{1, 0x1p-53, byMode{1, 1, afterOne}},
		{afterOne, 0x1p-53, byMode{afterOne, 1 + 0x1p-51, 1 + 0x1p-51}},
		{1, 0x1.0000000000001p-53, byMode{1, afterOne, afterOne}},
		{1, 0x1.fffffffffffffp-54, byMode{1, 1, afterOne}},
		{afterOne, 0x1.fffffffffffffp-54, byMode{afterOne, afterOne, 1 + 0x1p-51}},
		{-1, -0x1p-53, byMode{-afterOne, -1, -1}},
		{1, -0x1p-54, byMode{beforeOne, 1, 1}},
		{beforeOne, 0x1p-54, byMode{beforeOne, 1, 1}},
		// beyond the greatest finite float
		{greatest, greatest, byMode{greatest, inf, inf}},
		{-greatest, -greatest, byMode{-inf, -inf, -greatest}},
		{greatest, topUnit / 2, byMode{greatest, inf, inf}},
		{greatest, 0x1.fffffffffffffp969, byMode{greatest, greatest, inf}},
		{-greatest, -topUnit / 2, byMode{-inf, -inf, -greatest}},
		{-greatest, -0x1.fffffffffffffp969, byMode{-inf, -greatest, -greatest}},
		{0x1p1023, 0x1p1023, byMode{greatest, inf, inf}},
		{beforeTop, topUnit, all(greatest)},
		// below the least normal one nothing is lost
		{least, least, all(2 * least)},
		{topSmall, least, all(leastNormal)},
		{leastNormal, -least, all(topSmall)},
		{least, -2 * least, all(-least)},
		// noughts
		{0, 0, all(0)},
		{minusZero, minusZero, all(minusZero)},
		{0, minusZero, byMode{minusZero, 0, 0}},
		{minusZero, 0, byMode{minusZero, 0, 0}},
		{1, -1, byMode{minusZero, 0, 0}},
		{-greatest, greatest, byMode{minusZero, 0, 0}},
		{least, -least, byMode{minusZero, 0, 0}},
		{0, 1, all(1)}, {minusZero, -least, all(-least)}, {greatest, minusZero, all(greatest)},
		// infinities
		{inf, inf, all(inf)}, {-inf, -inf, all(-inf)}, {inf, -inf, all(nan)}, {-inf, inf, all(nan)},
		{inf, -greatest, all(inf)}, {greatest, -inf, all(-inf)}, {-inf, 0, all(-inf)}, {minusZero, inf, all(inf)},
	}
	for _, c := range cases {
		for _, mode := range modes {
			check(t, round.Add(c.a, c.b, mode), c.want.in(mode), "Add", mode, c.a, c.b)
			check(t, round.Sub(c.a, -c.b, mode), c.want.in(mode), "Sub", mode, c.a, -c.b)
		}
		checkAdd(t, c.a, c.b)
	}
}

func TestRN2SubCases(t *testing.T) {
	for _, mode := range modes {
		cancelled := byMode{minusZero, 0, 0}.in(mode)
		check(t, round.Sub(3, 1, mode), 2, "Sub", mode, 3, 1)
		check(t, round.Sub(1, 1, mode), cancelled, "Sub", mode, 1, 1)
		check(t, round.Sub(0, 0, mode), cancelled, "Sub", mode, 0, 0)
		check(t, round.Sub(minusZero, 0, mode), minusZero, "Sub", mode, minusZero, 0)
		check(t, round.Sub(0, minusZero, mode), 0, "Sub", mode, 0, minusZero)
		check(t, round.Sub(minusZero, minusZero, mode), cancelled, "Sub", mode, minusZero, minusZero)
		check(t, round.Sub(inf, inf, mode), nan, "Sub", mode, inf, inf)
		check(t, round.Sub(inf, -inf, mode), inf, "Sub", mode, inf, -inf)
		check(t, round.Sub(1, inf, mode), -inf, "Sub", mode, 1, inf)
	}
}

func TestRN2NaN(t *testing.T) {
	for _, n := range nans() {
		for _, f := range append(edges(), nans()...) {
			for _, mode := range modes {
				check(t, round.Add(n, f, mode), nan, "Add", mode, n, f)
				check(t, round.Add(f, n, mode), nan, "Add", mode, f, n)
				check(t, round.Sub(n, f, mode), nan, "Sub", mode, n, f)
				check(t, round.Sub(f, n, mode), nan, "Sub", mode, f, n)
			}
		}
	}
}

func TestRN2P6Edges(t *testing.T) {
	for _, a := range edges() {
		for _, b := range edges() {
			checkAdd(t, a, b)
		}
	}
}

func TestRN2P6Many(t *testing.T) {
	r := numbers{2}
	for range 6000 {
		a := r.float()
		checkAdd(t, a, r.float())
		// Beside a: what is left of a sum that nearly goes away, and what falls around half of a's last bit.
		checkAdd(t, a, -a*(1+0x1p-52*float64(r.below(9)-4)))
		checkAdd(t, a, a*math.Ldexp(1+0x1p-52*float64(r.below(3)), -r.below(110)))
	}
}
