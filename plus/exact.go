package plus

import (
	"slices"

	"cusp/api"
	"cusp/ball"
	"cusp/dyad"
	"cusp/round"
)

// The calls of dyad that stand here have errors only for what is no number, and for numbers far longer than those that come of MaxList finite floats, or of a product of two.

func exact(f float64) dyad.Num {
	n, _ := dyad.Of(f)
	return n
}

func added(a, b dyad.Num) dyad.Num {
	n, _ := dyad.Add(a, b)
	return n
}

func product(a, b float64) dyad.Num {
	n, _ := dyad.Mul(exact(a), exact(b))
	return n
}

// apart is how far a float is from a number.
func apart(f float64, n dyad.Num) dyad.Num {
	rest, _ := dyad.Sub(exact(f), n)
	return dyad.Abs(rest)
}

// total are numbers known exactly: all that are at most far away from the one with these parts.
type total struct{ re, im, far dyad.Num }

// plus is what the numbers come to with those of a ball.
func (t total) plus(b api.Ball) total {
	return total{added(t.re, exact(real(b.Mid))), added(t.im, exact(imag(b.Mid))), added(t.far, exact(b.Rad))}
}

// around is a ball with this middle that holds them. Where a part of the middle is infinite the radius counts for nothing.
func (t total) around(mid complex128) api.Ball {
	lost := added(apart(real(mid), t.re), apart(imag(mid), t.im))
	rad, _ := dyad.Round(added(lost, t.far), api.Up)
	return fit(mid, rad)
}

// fit is the ball of a middle and a radius that are no NaNs; the plane, where something is infinite.
func fit(mid complex128, rad float64) api.Ball {
	b, err := ball.Of(mid, rad)
	if err != api.OK {
		return ball.Plane()
	}
	return b
}

// sum is a ball with this middle that holds what the numbers of some balls come to.
func sum(mid complex128, l ...api.Ball) (api.Ball, api.Errno) {
	switch {
	case slices.ContainsFunc(l, mayNotBe):
		return api.Ball{}, api.ErrBall
	case slices.ContainsFunc(l, ball.Whole):
		return ball.Plane(), api.OK
	}
	var t total
	for _, b := range l {
		t = t.plus(b)
	}
	return t.around(mid), api.OK
}

// scaled is the product of a ball, that may be and is not the plane, with a finite float.
func scaled(b api.Ball, s float64) api.Ball {
	x, y := real(b.Mid), imag(b.Mid)
	mid := complex(round.Mul(x, s, api.Near), round.Mul(y, s, api.Near))
	return total{product(x, s), product(y, s), dyad.Abs(product(b.Rad, s))}.around(mid)
}

// moved is a ball of the same radius elsewhere; of the plane the plane.
func moved(b api.Ball, mid complex128) (api.Ball, api.Errno) {
	if mayNotBe(b) {
		return api.Ball{}, api.ErrBall
	}
	return fit(mid, b.Rad), api.OK
}

func mayNotBe(b api.Ball) bool { return !ball.Valid(b) }

// checked tells what is wrong with a ball and a real number.
func checked(b api.Ball, s float64) api.Errno {
	if mayNotBe(b) {
		return api.ErrBall
	}
	_, err := dyad.Of(s)
	return err
}
