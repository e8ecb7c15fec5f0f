package arith_test

import (
	"math"
	"testing"

	"cusp/api"
	"cusp/arith"
)

// wantPower is AR3's Power by its halves, with products and quotients as AR1 says them.
func wantPower(z complex128, n int) complex128 {
	switch {
	case n == 0:
		return 1
	case n < 0:
		return wantQuo(1, wantPositive(z, uint64(-(n+1))+1), api.Near)
	}
	return wantPositive(z, uint64(n))
}

func wantPositive(z complex128, n uint64) complex128 {
	if n == 0 {
		return 1
	}
	half := wantPositive(z, n/2)
	whole := wantMul(half, half, api.Near)
	if n%2 == 1 {
		whole = wantMul(whole, z, api.Near)
	}
	return whole
}

// TestAR3PowerCases: powers, written out.
func TestAR3PowerCases(t *testing.T) {
	m := minusZero
	for _, c := range []struct {
		z    complex128
		n    int
		want complex128
	}{
		{1 + 1i, 4, -4}, {1 + 1i, 1, 1 + 1i}, {1 + 1i, 2, 2i}, {1 + 1i, 3, -2 + 2i}, {1 + 1i, 8, complex(16, m)}, {2 - 1i, 3, 2 - 11i},
		{1 + 1i, -1, 0.5 - 0.5i}, {1i, -1, -1i}, {2, -3, 0.125}, {1 + 1i, -4, complex(-0.25, m)},
		// nothing is asked of z where n is 0
		{0, 0, 1}, {5, 0, 1}, {complex(nan, inf), 0, 1}, {complex(inf, 0), 0, 1},
		// n 1 is a product with 1 + 0i, no copy
		{complex(m, -1), 1, complex(0, -1)}, {complex(m, 1), 1, complex(m, 1)}, {complex(-1, m), 1, complex(-1, m)}, {complex(inf, 1), 1, noValue}, {complex(1, nan), 3, noValue},
		// beyond all floats, and a 0 to divide by
		{0, 5, 0}, {0, -1, noValue}, {complex(m, m), -7, noValue}, {2, 1023, 0x1p1023}, {2, 1024, complex(inf, 0)}, {2, 1025, noValue}, {2, 2048, noValue}, {2, -1024, noValue}, {0.5, -1023, 0x1p1023}, {0.5, 1074, least}, {0.5, 1075, 0}, {0.5, -1075, noValue},
		{complex(inf, 0), -1, noValue}, {complex(0, nan), -2, noValue},
		// the ends of the ints
		{1, math.MaxInt, 1}, {-1, math.MaxInt, -1}, {1i, math.MaxInt, complex(m, -1)}, {-1, math.MinInt, 1}, {1i, math.MinInt, 1}, {1i, math.MinInt + 1, complex(m, 1)}, {2, math.MaxInt, noValue}, {0.5, math.MaxInt, 0}, {0.5, math.MinInt, noValue}, {0, math.MinInt, noValue},
	} {
		check(t, arith.Power(c.z, c.n), c.want, "Power", c.z, c.n)
		check(t, wantPower(c.z, c.n), c.want, "what is asked of Power", c.z, c.n)
	}
}

// TestAR3PowerSteps: bit by bit what the steps come to.
func TestAR3PowerSteps(t *testing.T) {
	r := numbers{seed: 705}
	for range 1500 {
		turn := float64(r.below(1<<30)) / (1 << 28)
		near := complex(math.Cos(turn), math.Sin(turn)) * complex(math.Ldexp(1, r.below(3)-1), 0)
		for _, z := range []complex128{near, r.small(), r.value()} {
			n := r.below(400) - 200
			check(t, arith.Power(z, n), wantPower(z, n), "Power", z, n)
		}
	}
	for _, z := range pairs(edges()) {
		for n := -5; n <= 9; n++ {
			check(t, arith.Power(z, n), wantPower(z, n), "Power", z, n)
		}
	}
}

// TestAR3Sum: each part by itself, rounded once; an error of the one part leaves the other.
func TestAR3Sum(t *testing.T) {
	m := minusZero
	for _, c := range []struct {
		list           []complex128
		down, near, up complex128
	}{
		{nil, 0, 0, 0}, {[]complex128{}, 0, 0, 0}, {[]complex128{complex(m, m)}, complex(m, m), complex(m, m), complex(m, m)}, {[]complex128{complex(m, 0), complex(m, m)}, complex(m, 0), complex(m, 0), complex(m, 0)},
		{[]complex128{1 + 2i, 1e100 - 1e100i, 1 + 3i, -1e100 + 1e100i}, 2 + 5i, 2 + 5i, 2 + 5i},
		{[]complex128{1 - 1i, 0x1p-60 - 0x1p-60i}, complex(1, -afterOne), complex(1, -1), complex(afterOne, -1)},
		{[]complex128{1 - 1i, -1 + 1i}, 0, 0, 0}, // sums.Exact has +0 here, by every mode
		{[]complex128{complex(greatest, 1), complex(greatest, 1)}, complex(greatest, 2), complex(inf, 2), complex(inf, 2)},
		{[]complex128{complex(inf, 1), complex(2, 3)}, complex(nan, 4), complex(nan, 4), complex(nan, 4)},
		{[]complex128{complex(1, 1), complex(2, nan)}, complex(3, nan), complex(3, nan), complex(3, nan)},
		{[]complex128{complex(-inf, nan)}, noValue, noValue, noValue},
	} {
		for i, mode := range modes {
			check(t, arith.Sum(c.list, mode), [3]complex128{c.down, c.near, c.up}[i], "Sum", c.list, mode)
		}
		check(t, arith.Sum(c.list, 0), noValue, "Sum", c.list, 0)
	}
}

// TestAR3SumLong: as many as there may be, and one more.
func TestAR3SumLong(t *testing.T) {
	l := make([]complex128, api.MaxList+1)
	for i := range l {
		l[i] = 1 - 0x1p-60i
	}
	for _, mode := range modes {
		check(t, arith.Sum(l[1:], mode), complex(0x1p16, -0x1p-44), "Sum of many", mode)
		check(t, arith.Sum(l, mode), noValue, "Sum of too many", mode)
	}
}

// TestAR3P6P8Sum: R of both exact sums, whatever the order.
func TestAR3P6P8Sum(t *testing.T) {
	r := numbers{seed: 706}
	for range 400 {
		l := []complex128{r.value()}
		for range r.below(8) {
			l = append(l, r.value(), -l[r.below(len(l))])
		}
		re, im := exact(0), exact(0)
		for _, z := range l {
			re, im = plus(re, exact(real(z))), plus(im, exact(imag(z)))
		}
		for _, mode := range modes {
			got := arith.Sum(l, mode)
			if re.Sign() != 0 {
				checkFloat(t, real(got), rounded(re, mode), "real part of Sum", l, mode)
			}
			if im.Sign() != 0 {
				checkFloat(t, imag(got), rounded(im, mode), "imaginary part of Sum", l, mode)
			}
			turned := append([]complex128(nil), l...)
			for i := range turned {
				j := i + r.below(len(turned)-i)
				turned[i], turned[j] = turned[j], turned[i]
			}
			check(t, arith.Sum(turned, mode), got, "Sum in another order", l, mode)
		}
	}
}
