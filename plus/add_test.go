package plus_test

import (
	"testing"

	"cusp/api"
	"cusp/plus"
)

// negated is b with both signs turned; the plane's middle is 0+0i.
func negated(b api.Ball) api.Ball {
	if b == plane {
		return plane
	}
	return of(-real(b.Mid), -imag(b.Mid), b.Rad)
}

// wantAdd is PL1's: the language's sum is the one to the nearest.
func wantAdd(a, b api.Ball) api.Ball {
	if infinite(a.Rad) || infinite(b.Rad) {
		return plane
	}
	return wantAround(a.Mid+b.Mid, both(real(a.Mid), real(b.Mid)), both(imag(a.Mid), imag(b.Mid)), both(a.Rad, b.Rad))
}

func checkAdd(t *testing.T, a, b api.Ball) {
	t.Helper()
	got, err := plus.Add(a, b)
	check(t, got, err, wantAdd(a, b), "Add", a, b)
	got, err = plus.Sub(a, b)
	check(t, got, err, wantAdd(a, negated(b)), "Sub", a, b)
}

func TestPL1AddCases(t *testing.T) {
	for _, c := range []struct{ a, b, want api.Ball }{
		{of(1, 0, 0.5), of(0, 2, 0.25), of(1, 2, 0.75)}, {dot(1, 0), dot(0x1p-60, 0), of(1, 0, 0x1p-60)}, {dot(1, 1), dot(0x1p-60, -0x1p-61), of(1, 1, 0x1.8p-60)},
		// Halfway between floats the even one; what it is away is the radius.
		{dot(1, 0), dot(0x1p-53, 0), of(1, 0, 0x1p-53)}, {dot(afterOne, 0), dot(0x1p-53, 0), of(0x1.0000000000002p0, 0, 0x1p-53)}, {dot(0, -1), dot(0, -0x1p-53), of(0, -1, 0x1p-53)},
		{dot(0.1, 0), dot(0.2, 0), of(0.30000000000000004, 0, 2.7755575615628914e-17)}, {of(0.1, 0, 1.3877787807814457e-17), of(0.2, 0, 2.7755575615628914e-17), of(0.30000000000000004, 0, 6.938893903907228e-17)},
		// The radius is rounded up, once: in steps it would be greater, or be lost.
		{of(0, 0, 1), of(0, 0, 0x1p-60), of(0, 0, afterOne)}, {of(1, 0, 1), dot(0x1p-60, 0), of(1, 0, afterOne)}, {of(1, 1, 1), of(0x1p-60, -0x1p-60, 0x1p-54), of(1, 1, afterOne)}, {of(1, 0, 1), of(0x1p-54, 0, 0x1.8p-53), of(1, 0, afterOne)},
		{of(1, 0, 0x1p-110), of(0x1p-53, 0, 0x1p-53), of(1, 0, 0x1.0000000000001p-52)}, {of(0, 0, least), of(0, 0, least), of(0, 0, 2*least)}, {of(1, 0, 0), of(least, least, 0), of(1, least, least)}, {of(1, 1, 0), of(least, least, least), of(1, 1, 3*least)},
		// Noughts
		{dot(minusZero, minusZero), dot(minusZero, minusZero), dot(minusZero, minusZero)}, {dot(minusZero, 0), dot(0, minusZero), dot(0, 0)}, {dot(minusZero, minusZero), dot(minusZero, 0), dot(minusZero, 0)}, {of(1, -1, 1), of(-1, 1, 2), of(0, 0, 3)}, {dot(-4, minusZero), dot(1, minusZero), dot(-3, minusZero)}, {dot(-4, minusZero), dot(1, 0), dot(-3, 0)},
		// Beyond the greatest float; what may be is not cut off.
		{dot(greatest, 0), dot(greatest, 0), plane}, {dot(0, -greatest), dot(0, -greatest), plane}, {dot(greatest, 0), dot(0x1p970, 0), plane}, {dot(greatest, 1), dot(0x1p969, 2), of(greatest, 3, 0x1p969)}, {of(1, 0, greatest), of(1, 0, least), plane}, {of(1, 0, greatest), dot(1, 0), of(2, 0, greatest)}, {of(1, 0, greatest), dot(0x1p-60, 0), plane},
		{of(greatest, greatest, 0x1p1023), of(-greatest, -greatest, 0x1p1022), of(0, 0, 0x1.8p1023)}, {of(0, 0, 0x1p1023), of(0, 0, 0x1p1023), plane},
		{plane, dot(1, 1), plane}, {dot(1, minusZero), plane, plane}, {plane, plane, plane},
	} {
		got, err := plus.Add(c.a, c.b)
		check(t, got, err, c.want, "Add", c.a, c.b)
		checkAdd(t, c.a, c.b)
	}
}

func TestPL1SubCases(t *testing.T) {
	for _, c := range []struct{ a, b, want api.Ball }{
		{of(1, 0, 0.5), of(0, 2, 0.25), of(1, -2, 0.75)}, {of(3, 4, 1), of(3, 4, 1), of(0, 0, 2)}, {dot(1, 0), dot(0x1p-60, 0), of(1, 0, 0x1p-60)}, {dot(1, 0), dot(-afterOne, 0), of(2, 0, 0x1p-52)},
		{dot(0, 0), dot(0, 0), dot(0, 0)}, {dot(minusZero, minusZero), dot(0, 0), dot(minusZero, minusZero)}, {dot(0, minusZero), dot(minusZero, minusZero), dot(0, 0)}, {dot(-4, minusZero), dot(1, 0), dot(-5, minusZero)},
		{dot(greatest, 0), dot(-greatest, 0), plane}, {dot(greatest, 0), dot(greatest, 0), dot(0, 0)}, {plane, plane, plane}, {plane, dot(1, 2), plane}, {dot(1, 2), plane, plane},
	} {
		got, err := plus.Sub(c.a, c.b)
		check(t, got, err, c.want, "Sub", c.a, c.b)
	}
}

func TestPL1AddMany(t *testing.T) {
	r := numbers{151}
	for range 5000 {
		checkAdd(t, r.ball(), r.ball())
		a, b := r.pair()
		checkAdd(t, a, b)
	}
	all := corners()
	for _, a := range all {
		for range 20 {
			checkAdd(t, a, all[r.below(len(all))])
		}
	}
}

func TestPL1AddWrong(t *testing.T) {
	for _, w := range wrongBalls() {
		for _, b := range append(wrongBalls(), dot(0, 0), of(1, 2, 3), plane) {
			for _, p := range [][2]api.Ball{{w, b}, {b, w}} {
				got, err := plus.Add(p[0], p[1])
				checkErr(t, got, err, api.ErrBall, "Add", p)
				got, err = plus.Sub(p[0], p[1])
				checkErr(t, got, err, api.ErrBall, "Sub", p)
			}
		}
	}
}
