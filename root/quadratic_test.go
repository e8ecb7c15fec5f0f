package root_test

import (
	"testing"

	"cusp/api"
	"cusp/over"
	"cusp/plus"
	"cusp/root"
	"cusp/times"
)

// known is the ball of a call that can't but answer one.
func known(b api.Ball, err api.Errno) api.Ball {
	if err != api.OK {
		panic(err)
	}
	return b
}

// wantQuadratic is RO3's, of balls that may be, the first without 0.
func wantQuadratic(a, b, c api.Ball) (api.Ball, api.Ball) {
	d := known(plus.Sub(known(times.Sqr(b)), known(times.Mul(known(times.Mul(dot(4, 0), a)), c))))
	s, _ := wantSqrt(d)
	n, twice := known(plus.Neg(b)), known(plus.Scale(a, 2))
	return known(over.Div(known(plus.Add(n, s)), twice)), known(over.Div(known(plus.Sub(n, s)), twice))
}

func checkQuadratic(t *testing.T, a, b, c api.Ball) {
	t.Helper()
	one, other, err := root.Quadratic(a, b, c)
	wantOne, wantOther := wantQuadratic(a, b, c)
	if !alike(one, wantOne) || !alike(other, wantOther) || err != api.OK {
		t.Errorf("Quadratic(%x, %x, %x) = %x, %x, %v, want %x, %x", a, b, c, one, other, err, wantOne, wantOther)
	}
}

func TestRO3QuadraticCases(t *testing.T) {
	for _, c := range []struct{ a, b, c, one, other api.Ball }{
		{dot(1, 0), dot(-3, 0), dot(2, 0), dot(2, 0), dot(1, 0)}, {dot(1, 0), dot(3, 0), dot(2, 0), dot(-1, 0), dot(-2, 0)}, {dot(1, 0), dot(0, 0), dot(-4, 0), dot(2, 0), dot(-2, 0)}, {dot(2, 0), dot(-6, 0), dot(4, 0), dot(2, 0), dot(1, 0)}, {dot(1, 0), dot(-2, 0), dot(1, 0), dot(1, 0), dot(1, 0)}, {dot(1, 0), dot(0, 0), dot(0, 0), dot(0, 0), dot(0, 0)}, {dot(1, 0), dot(-3, -3), dot(0, 4), dot(2, 2), dot(1, 1)},
		// The root is added first: divided by what is below 0, or by i, that need not be the greater zero.
		{dot(-1, 0), dot(3, 0), dot(-2, 0), dot(1, 0), dot(2, 0)}, {dot(0, 1), dot(0, 0), dot(0, 4), dot(0, -2), dot(0, 2)},
		// On the cut the discriminant's nought tells the root: of b^2 it is -0 where both parts' products are.
		{dot(1, 0), dot(-2, 0), dot(2, 0), dot(1, -1), dot(1, 1)}, {dot(1, 0), dot(2, 0), dot(5, 0), dot(-1, 2), dot(-1, -2)}, {dot(1, 0), dot(0, 0), dot(1, 0), dot(0, 1), dot(0, -1)}, {dot(1, 0), dot(0, -3), dot(-2, 0), dot(0, 1), dot(0, 2)}, {dot(1, 0), dot(minusZero, 3), dot(-2, 0), dot(0, -2), dot(0, -1)},
		// Balls: of b and of c.
		{dot(1, 0), of(0, 0, 1), dot(0, 0), of(0, 0, 1), of(0, 0, 1)}, {dot(1, 0), dot(0, 0), of(0, 0, 1), of(0, 0, 1), of(0, 0, 1)}, {dot(1, 0), dot(0, 0), of(-25, 0, 9), of(5, 0, 1), of(-5, 0, 1)}, {dot(0.5, 0), dot(2, 0), of(0, 0, 1.5), of(0, 0, 1), of(-4, 0, 1)},
		{dot(1, 0), plane, dot(1, 0), plane, plane}, {dot(1, 0), dot(1, 0), plane, plane, plane}, {dot(0x1p1023, 0), dot(1, 0), dot(0, 0), plane, plane}, {dot(1, 0), dot(0x1p512, 0), dot(0, 0), plane, plane}, {dot(least, 0), dot(0, 0), dot(0, 0), plane, plane},
	} {
		one, other, err := root.Quadratic(c.a, c.b, c.c)
		if !equal(one, c.one) || !equal(other, c.other) || err != api.OK {
			t.Errorf("Quadratic(%v, %v, %v) = %v, %v, %v, want %v, %v", c.a, c.b, c.c, one, other, err, c.one, c.other)
		}
		checkQuadratic(t, c.a, c.b, c.c)
	}
}

// leading is a ball without 0, most often far from it.
func (r *numbers) leading() api.Ball {
	for {
		b := r.ball()
		if r.below(3) > 0 {
			b = r.modest()
		}
		if zero, _ := over.Zero(b); !zero {
			return b
		}
	}
}

// modest has parts so near to 1, and a radius so small, that a quadratic of such balls has zeros that are no plane.
func (r *numbers) modest() api.Ball {
	part := func() float64 { return float64(r.below(1<<20)-1<<19) / (1 << 18) }
	return of(part(), part(), max(0, part()*part()/64)) // a point, as often as not
}

func TestRO3QuadraticMany(t *testing.T) {
	r := numbers{184}
	discs := 0
	for i := range 1500 {
		a, b, c := r.leading(), r.modest(), r.modest()
		if i%3 == 0 {
			b, c = r.ball(), r.ball()
		}
		checkQuadratic(t, a, b, c)
		if one, _, _ := root.Quadratic(a, b, c); one != plane {
			discs++
		}
	}
	if discs < 600 {
		t.Error(discs)
	}
	all := corners()
	for i, b := range all {
		checkQuadratic(t, dot(1, 0), b, all[(i*31+7)%len(all)])
		if zero, _ := over.Zero(b); !zero {
			checkQuadratic(t, b, all[(i*17+3)%len(all)], dot(minusZero, 0))
		}
	}
}

// TestRO3QuadraticWrong: a ball that may not be, whichever it is, goes ahead of 0 in the first one.
func TestRO3QuadraticWrong(t *testing.T) {
	wrong := func(a, b, c api.Ball, want api.Errno) {
		t.Helper()
		if one, other, err := root.Quadratic(a, b, c); !alike(one, api.Ball{}) || !alike(other, api.Ball{}) || err != want {
			t.Errorf("Quadratic(%v, %v, %v) = %v, %v, %v, want the error %v", a, b, c, one, other, err, want)
		}
	}
	zeros := []api.Ball{dot(0, 0), dot(minusZero, minusZero), of(1, 0, 1), of(3, 4, 5), of(0, 0, least), plane, of(greatest, 0, greatest)}
	for _, w := range wrongBalls() {
		for _, b := range append(zeros, dot(1, 0), of(3, 4, 1), w) {
			wrong(w, b, b, api.ErrBall)
			wrong(b, w, b, api.ErrBall)
			wrong(b, b, w, api.ErrBall)
		}
	}
	for _, a := range zeros {
		wrong(a, dot(1, 0), dot(1, 0), api.ErrZero)
		wrong(a, plane, dot(0, 0), api.ErrZero)
		wrong(a, of(0, 0, 1), plane, api.ErrZero)
	}
}
