package times_test

import (
	"testing"

	"cusp/api"
	"cusp/times"
)

func checkMul(t *testing.T, a, b api.Ball) {
	t.Helper()
	got, err := times.Mul(a, b)
	check(t, got, err, wantMul(a, b), "Mul", a, b)
}

func TestTI1MulCases(t *testing.T) {
	for _, c := range []struct{ a, b, want api.Ball }{
		{dot(1, 2), dot(3, -1), dot(5, 5)}, {of(1, 0, 0.5), of(1, 0, 0.5), of(1, 0, 1.25)}, {dot(3, 4), of(0, 1, 1), of(-4, 3, 5)}, {of(3, 4, 2), of(5, 12, 3), of(-33, 56, 47)}, {of(0, 0, 2), of(0, 0, 3), of(0, 0, 6)}, {of(0, 0, 2), of(3, 4, 1), of(0, 0, 12)}, {of(2, 0, 1), dot(0, 0), dot(0, 0)},
		// Magnitudes that are no floats.
		{dot(1, 1), of(1, 0, 1), of(1, 1, 0x1.6a09e667f3bcdp0)}, {of(1, 0, 1), dot(1, 1), of(1, 1, 0x1.6a09e667f3bcdp0)}, {of(1, 1, 1), of(1, 1, 1), of(0, 2, 3.8284271247461903)},
		// The radius is rounded up once: in steps these would be greater.
		{of(1, 1, 2), of(1, 2, 1), of(-1, 3, 0x1.f8b9f3537c39bp2)}, {of(2, 1, 1), of(2, 2, 3), of(2, 6, 0x1.912c14e51c671p3)}, {of(5, 1, 3), of(5, 2, 2), of(23, 15, 0x1.02d409583ddb9p5)}, {of(1, 0, 0x1p-53), of(1, 0, 0x1p-53), of(1, 0, 0x1.0000000000001p-52)}, {of(1, 0, 1), of(1, 0, 0x1p-54), of(1, 0, afterOne)},
		// What the middle lost counts, of both parts.
		{dot(0.1, 0), dot(0.1, 0), of(0.010000000000000002, 0, 0x1.eb851eb851eb8p-61)}, {dot(0.1, 0.2), dot(0.3, 0.7), of(-0.11, 0.13, 0x1.c28f5c28f5c2ap-58)}, {of(0.1, -0.2, 1e-17), of(0.3, 0.7, 1e-17), of(0.17, 0.009999999999999998, 0x1.a3d07befb9201p-56)},
		{dot(afterOne, 0), dot(afterOne, 0), of(0x1.0000000000002p0, 0, 0x1p-104)}, {dot(afterOne, 0), dot(0, afterOne), of(0, 0x1.0000000000002p0, 0x1p-104)}, {dot(afterOne, afterOne), dot(afterOne, 0), of(0x1.0000000000002p0, 0x1.0000000000002p0, 0x1p-103)}, {dot(afterOne, 0), of(afterOne, 0, 1), of(0x1.0000000000002p0, 0, 0x1.0000000000002p0)},
		// A part of which both products are great, and their difference is small.
		{dot(afterOne, 1), dot(1, beforeOne), of(0x1.8p-52, 2, 0x1.ffffffffffffep-54)}, {dot(0x1p600, 0x1p600), dot(0x1p500, -0x1p600), plane}, {dot(greatest, greatest), dot(0.5, 0.5), dot(0, greatest)},
		// Noughts take the signs of both products.
		{dot(minusZero, 0), dot(1, 0), dot(minusZero, 0)}, {dot(0, 0), dot(minusZero, minusZero), dot(0, minusZero)}, {dot(minusZero, minusZero), dot(minusZero, minusZero), dot(0, 0)}, {dot(-4, minusZero), dot(1, 0), dot(-4, minusZero)}, {dot(-4, minusZero), dot(2, minusZero), dot(-8, 0)}, {dot(2, 3), dot(3, 2), dot(0, 13)}, {dot(2, 3), dot(-2, 3), dot(-13, 0)}, {of(0, minusZero, 1), of(1, 0, 1), of(0, 0, 2)},
		// Below the least float: a part keeps its sign, and what it lost counts.
		{dot(least, 0), dot(0.5, 0), of(0, 0, least)}, {dot(-least, 0), dot(0.25, 0), of(minusZero, 0, least)}, {dot(least, least), dot(least, -least), of(0, 0, least)}, {dot(3*least, 0), dot(0.5, 0), of(2*least, 0, least)}, {of(0, 0, least), of(0, 0, least), of(0, 0, least)}, {of(0, 0, least), of(0, 0, 1), of(0, 0, least)}, {dot(least, 0), of(0, 0, 0.5), of(0, 0, least)}, {of(1, 0, 1), of(1, 0, least), of(1, 0, afterOne)}, {dot(0x1p-537, 0), dot(0x1p-537, 0), dot(least, 0)}, {of(0x1p-537, 0, 0x1p-537), dot(0x1p-538, 0), of(0, 0, least)},
		// Beyond the greatest float.
		{dot(1e200, 0), dot(1e200, 0), plane}, {dot(0, -1e200), dot(1e200, 0), plane}, {dot(greatest, 0), dot(1, 0), dot(greatest, 0)}, {dot(greatest, 0), of(1, 0, 1), of(greatest, 0, greatest)}, {dot(greatest, 0), of(1, 0, afterOne), plane}, {of(greatest, 0, 1), of(1, 0, 1), plane}, {of(1, 0, greatest), dot(1, 0), of(1, 0, greatest)}, {of(1, 0, greatest), dot(beforeOne, 0), of(beforeOne, 0, 0x1.fffffffffffffp1023)}, {of(1, 0, greatest), of(1, 0, least), plane}, {of(0, 0, 1e200), of(0, 0, 1e200), plane}, {dot(greatest, greatest), of(0.5, 0, 0.5), of(greatest/2, greatest/2, 0x1.6a09e667f3bccp1023)}, {dot(greatest, greatest), of(0.5, 0, 0.75), plane},
		// Of the plane, whatever the other one is.
		{plane, dot(1, 1), plane}, {dot(0, 0), plane, plane}, {plane, dot(minusZero, minusZero), plane}, {plane, plane, plane}, {plane, of(greatest, 0, greatest), plane},
	} {
		got, err := times.Mul(c.a, c.b)
		check(t, got, err, c.want, "Mul", c.a, c.b)
		checkMul(t, c.a, c.b)
		checkMul(t, c.b, c.a)
	}
}

func TestTI1MulMany(t *testing.T) {
	r := numbers{161}
	for range 2500 {
		a, b := r.pair()
		checkMul(t, a, b)
		checkMul(t, r.modest(), r.modest())
	}
	all := corners()
	for i, a := range all {
		checkMul(t, a, a)
		for k := range 12 {
			checkMul(t, a, all[(i*7+k*13)%len(all)])
		}
	}
}

// TestTI1Whole: parts and radii so small and whole that the radius is exact where the magnitudes are.
func TestTI1Whole(t *testing.T) {
	for _, p := range [][3]float64{{3, 4, 5}, {-5, 12, 13}, {8, -15, 17}, {0, 7, 7}, {-6, 0, 6}} {
		for _, q := range [][3]float64{{4, 3, 5}, {-12, -5, 13}, {15, 8, 17}, {0, -1, 1}, {9, 0, 9}} {
			for r := range 4 {
				for s := range 4 {
					m, n := float64(r)/4, float64(s)/8
					got, err := times.Mul(of(p[0], p[1], m), of(q[0], q[1], n))
					if want := of(p[0]*q[0]-p[1]*q[1], p[0]*q[1]+p[1]*q[0], m*n+p[2]*n+q[2]*m); !equal(got, want) || err != api.OK {
						t.Errorf("Mul of %v with %v and %v with %v = %v, %v, want %v", p, m, q, n, got, err, want)
					}
				}
			}
		}
	}
}

func TestTI1Wrong(t *testing.T) {
	for _, w := range wrongBalls() {
		for _, b := range append(wrongBalls(), dot(0, 0), of(1, 2, 3), plane, of(greatest, greatest, greatest)) {
			for _, p := range [][2]api.Ball{{w, b}, {b, w}} {
				got, err := times.Mul(p[0], p[1])
				checkErr(t, got, err, api.ErrBall, "Mul", p)
			}
		}
		got, err := times.Sqr(w)
		checkErr(t, got, err, api.ErrBall, "Sqr", w)
	}
}

func checkSqr(t *testing.T, b api.Ball) {
	t.Helper()
	got, err := times.Sqr(b)
	check(t, got, err, wantSqr(b), "Sqr", b)
}

func TestTI2SqrCases(t *testing.T) {
	for _, c := range []struct{ b, want api.Ball }{
		{of(1, 0, 0.5), of(1, 0, 1.25)}, {dot(1, 2), dot(-3, 4)}, {of(3, 4, 2), of(-7, 24, 24)}, {of(0, 0, 3), of(0, 0, 9)}, {of(1, 1, 1), of(0, 2, 3.8284271247461903)}, {of(0, 1, 1), of(-1, 0, 3)},
		{dot(afterOne, 0), of(0x1.0000000000002p0, 0, 0x1p-104)}, {of(1, 0, 0x1p-53), of(1, 0, 0x1.0000000000001p-52)}, {dot(0.1, 0), of(0.010000000000000002, 0, 0x1.eb851eb851eb8p-61)},
		{dot(minusZero, 0), dot(0, minusZero)}, {dot(0, minusZero), dot(0, minusZero)}, {dot(minusZero, minusZero), dot(0, 0)}, {dot(-4, minusZero), dot(16, 0)}, {dot(-4, 0), dot(16, minusZero)}, {dot(0, 2), dot(-4, 0)}, {dot(0, -2), dot(-4, minusZero)}, {dot(2, 2), dot(0, 8)},
		{dot(least, 0), of(0, 0, least)}, {of(0, 0, least), of(0, 0, least)}, {of(0x1p-537, 0, 0), dot(least, 0)}, {of(0x1p-537, 0, 0x1p-537), of(least, 0, 3*least)}, {dot(0x1p-538, -0x1p-538), of(0, minusZero, least)},
		{dot(1e200, 0), plane}, {dot(1e200, 1e200), plane}, {of(0, 0, 1e200), plane}, {of(1, 0, greatest), plane}, {of(0x1p511, 0, 0x1p511), of(0x1p1022, 0, 0x1.8p1023)}, {of(0x1p511, 0, 0x1p512), plane}, {plane, plane},
	} {
		got, err := times.Sqr(c.b)
		check(t, got, err, c.want, "Sqr", c.b)
		checkSqr(t, c.b)
	}
}

func TestTI2SqrMany(t *testing.T) {
	r := numbers{162}
	for range 1500 {
		checkSqr(t, r.ball())
		checkSqr(t, r.modest())
	}
	for _, b := range corners() {
		checkSqr(t, b)
	}
}
