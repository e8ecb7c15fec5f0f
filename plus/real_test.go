package plus_test

import (
	"math"
	"testing"

	"cusp/api"
	"cusp/plus"
)

// wantReal is PL2's: the language's sum is the one to the nearest.
func wantReal(b api.Ball, s float64) api.Ball {
	if b == plane {
		return plane
	}
	x, y := real(b.Mid), imag(b.Mid)
	return wantAround(complex(x+s, y), both(x, s), whole(y), whole(b.Rad))
}

// wantScale is PL2's: the language's product is the one to the nearest.
func wantScale(b api.Ball, s float64) api.Ball {
	if b == plane {
		return plane
	}
	x, y := real(b.Mid), imag(b.Mid)
	return wantAround(complex(float64(x*s), float64(y*s)), times(x, s), times(y, s), times(b.Rad, math.Abs(s)))
}

func checkReal(t *testing.T, b api.Ball, s float64) {
	t.Helper()
	got, err := plus.Real(b, s)
	check(t, got, err, wantReal(b, s), "Real", b, s)
	got, err = plus.From(s, b)
	check(t, got, err, wantReal(negated(b), s), "From", s, b)
	got, err = plus.Scale(b, s)
	check(t, got, err, wantScale(b, s), "Scale", b, s)
}

// realCase is an answer of a ball and a real number.
type realCase struct {
	b    api.Ball
	s    float64
	want api.Ball
}

func TestPL2RealCases(t *testing.T) {
	for _, c := range []realCase{
		{of(1, 2, 0.5), 3, of(4, 2, 0.5)}, {dot(1, 0), 0x1p-60, of(1, 0, 0x1p-60)}, {of(1, 2, 1), 0x1p-60, of(1, 2, afterOne)}, {of(1, 2, 1), -1, of(0, 2, 1)}, {of(1, 0, 1), 0x1p-54 + 0x1p-60, of(1, 0, afterOne)},
		// The imaginary part stays bit by bit.
		{dot(-5, minusZero), 1, dot(-4, minusZero)}, {dot(-5, 0), 1, dot(-4, 0)}, {dot(minusZero, minusZero), minusZero, dot(minusZero, minusZero)}, {dot(minusZero, minusZero), 0, dot(0, minusZero)}, {dot(1, -least), greatest, of(greatest, -least, 1)}, {dot(1, -greatest), -1, dot(0, -greatest)},
		{dot(greatest, 0), greatest, plane}, {dot(-greatest, 0), -0x1p970, plane}, {of(greatest, 0, 1), 0x1p969, of(greatest, 0, 0x1.0000000000001p969)}, {of(1, 0, greatest), least, plane}, {of(1, 0, greatest), 1, of(2, 0, greatest)}, {plane, 1, plane}, {plane, minusZero, plane}, {plane, greatest, plane},
	} {
		got, err := plus.Real(c.b, c.s)
		check(t, got, err, c.want, "Real", c.b, c.s)
	}
}

func TestPL2FromCases(t *testing.T) {
	for _, c := range []realCase{
		{dot(2, 0), 1, dot(-1, minusZero)}, {dot(2, minusZero), 1, dot(-1, 0)}, {of(1, 2, 0.5), 3, of(2, -2, 0.5)}, {dot(0x1p-60, 3), 1, of(1, -3, 0x1p-60)}, {of(1, 2, 1), 1, of(0, -2, 1)}, {dot(0, 0), minusZero, dot(minusZero, minusZero)}, {dot(0, 0), 0, dot(0, minusZero)}, {dot(minusZero, 0), 0, dot(0, minusZero)},
		{dot(-greatest, 0), greatest, plane}, {dot(greatest, 0), greatest, dot(0, minusZero)}, {plane, 1, plane}, {plane, 0, plane},
	} {
		got, err := plus.From(c.s, c.b)
		check(t, got, err, c.want, "From", c.s, c.b)
	}
}

func TestPL2ScaleCases(t *testing.T) {
	for _, c := range []realCase{
		{of(1, 2, 0.5), 2, of(2, 4, 1)}, {of(1, 2, 0.5), -2, of(-2, -4, 1)}, {of(1, -2, 3), 0, of(0, minusZero, 0)}, {of(1, -2, 3), minusZero, of(minusZero, 0, 0)}, {dot(-4, minusZero), 2, dot(-8, minusZero)}, {dot(-4, minusZero), -2, dot(8, 0)}, {of(greatest, greatest, greatest), 0, dot(0, 0)}, {of(3, minusZero, 1), 1, of(3, minusZero, 1)},
		// afterOne times itself is 2^-104 more than its middle; the radius is rounded once.
		{dot(afterOne, 0), afterOne, of(0x1.0000000000002p0, 0, 0x1p-104)}, {dot(afterOne, -afterOne), afterOne, of(0x1.0000000000002p0, -0x1.0000000000002p0, 0x1p-103)}, {of(afterOne, 0, 1), afterOne, of(0x1.0000000000002p0, 0, 0x1.0000000000002p0)}, {of(afterOne, 0, afterOne), afterOne, of(0x1.0000000000002p0, 0, 0x1.0000000000003p0)}, {of(afterOne, 0, 1), -1, of(-afterOne, minusZero, 1)},
		{of(0, 0, afterOne), afterOne, of(0, 0, 0x1.0000000000003p0)}, {of(0, 0, afterOne), -afterOne, of(minusZero, minusZero, 0x1.0000000000003p0)},
		// Below the least float: a part that is rounded to nought keeps its sign, and its error counts.
		{dot(least, -least), 0.5, of(0, minusZero, least)}, {dot(-least, 0), 0.25, of(minusZero, 0, least)}, {of(least, least, least), 0.5, of(0, 0, 2*least)}, {of(least, 0, least), 0.5, of(0, 0, least)}, {of(0, 0, least), least, of(0, 0, least)}, {dot(least, least), least, of(0, 0, least)}, {dot(3*least, 0), 0.5, of(2*least, 0, least)}, {of(0, 0, 0x1p-537), 0x1p-538, of(0, 0, least)}, {dot(least, 0), -0.5, of(minusZero, minusZero, least)},
		{dot(greatest, 0), 2, plane}, {dot(0, -greatest), 2, plane}, {dot(greatest, 0), afterOne, plane}, {of(1, 1, greatest), afterOne, plane}, {of(1, 0, greatest), -1, of(-1, minusZero, greatest)}, {of(greatest, greatest, greatest), 0.5, of(greatest/2, greatest/2, greatest/2)}, {of(0, 0, 0x1p1023), -2, plane}, {of(0, 0, 0x1p1000), greatest, plane},
		{plane, 0, plane}, {plane, 1, plane}, {plane, -1, plane}, {plane, minusZero, plane}, {plane, greatest, plane},
	} {
		got, err := plus.Scale(c.b, c.s)
		check(t, got, err, c.want, "Scale", c.b, c.s)
	}
}

func TestPL2Many(t *testing.T) {
	r := numbers{154}
	for range 4000 {
		checkReal(t, r.ball(), r.float())
		b := r.ball()
		checkReal(t, b, r.beside(real(b.Mid)))
		checkReal(t, b, math.Ldexp(afterOne, -r.below(1000)))
	}
	for _, b := range corners() {
		for _, s := range anyFloats() {
			if s-s == 0 {
				checkReal(t, b, s)
			}
		}
	}
}

func TestPL2Parts(t *testing.T) {
	for _, c := range []struct{ b, re, im api.Ball }{
		{of(1, 2, 0.5), of(1, 0, 0.5), of(2, 0, 0.5)}, {dot(minusZero, minusZero), dot(minusZero, 0), dot(minusZero, 0)}, {dot(-4, minusZero), dot(-4, 0), dot(minusZero, 0)}, {dot(0, -3), dot(0, 0), dot(-3, 0)}, {of(-greatest, least, greatest), of(-greatest, 0, greatest), of(least, 0, greatest)}, {plane, plane, plane},
	} {
		got, err := plus.Re(c.b)
		check(t, got, err, c.re, "Re", c.b)
		got, err = plus.Im(c.b)
		check(t, got, err, c.im, "Im", c.b)
	}
	for _, b := range corners() {
		got, err := plus.Re(b)
		check(t, got, err, of(real(b.Mid), 0, b.Rad), "Re", b)
		got, err = plus.Im(b)
		check(t, got, err, of(imag(b.Mid), 0, b.Rad), "Im", b)
	}
}

// TestPL2Wrong: a ball that may not be comes ahead of a number that is none, of the plane too the number.
func TestPL2Wrong(t *testing.T) {
	ask := func(b api.Ball, s float64, want api.Errno) {
		t.Helper()
		got, err := plus.Real(b, s)
		checkErr(t, got, err, want, "Real", b, s)
		got, err = plus.From(s, b)
		checkErr(t, got, err, want, "From", s, b)
		got, err = plus.Scale(b, s)
		checkErr(t, got, err, want, "Scale", b, s)
	}
	for _, w := range wrongBalls() {
		for _, s := range anyFloats() {
			ask(w, s, api.ErrBall)
		}
		got, err := plus.Re(w)
		checkErr(t, got, err, api.ErrBall, "Re", w)
		got, err = plus.Im(w)
		checkErr(t, got, err, api.ErrBall, "Im", w)
	}
	for _, b := range corners() {
		for _, s := range nans() {
			ask(b, s, api.ErrNaN)
		}
		ask(b, inf, api.ErrInf)
		ask(b, -inf, api.ErrInf)
	}
}
