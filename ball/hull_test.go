package ball_test

import (
	"math"
	"testing"

	"cusp/api"
	"cusp/ball"
)

// wantHull is BA3's, by the library.
func wantHull(a, b api.Ball) api.Ball {
	switch {
	case wantWithin(a, b):
		return b
	case wantWithin(b, a):
		return a
	}
	half := func(x, y float64) float64 { return towards(plus(whole(x), whole(y)), api.Near) } // whole numbers of 2^-1075 are halves of those of 2^-1074
	mid := complex(half(real(a.Mid), real(b.Mid)), half(imag(a.Mid), imag(b.Mid)))
	return finite(mid, max(upper(whole(a.Rad), distance(a.Mid, mid)), upper(whole(b.Rad), distance(b.Mid, mid))))
}

func checkHull(t *testing.T, a, b api.Ball) {
	t.Helper()
	got, err := ball.Hull(a, b)
	check(t, got, err, wantHull(a, b), "Hull", a, b)
}

func TestBA3HullCases(t *testing.T) {
	for _, c := range []struct{ a, b, want api.Ball }{
		{dot(0, 0), dot(2, 0), of(1, 0, 1)}, {dot(2, 0), dot(0, 0), of(1, 0, 1)}, {dot(0, 0), dot(6, 8), of(3, 4, 5)}, {of(0, 0, 1), of(6, 8, 2), of(3, 4, 7)},
		// One holds the other: it is answered, b ahead of a.
		{of(1, 0, 1), of(0, 0, 2), of(0, 0, 2)}, {of(0, 0, 2), of(1, 0, 1), of(0, 0, 2)}, {dot(0, 0), dot(minusZero, minusZero), dot(minusZero, minusZero)}, {dot(minusZero, 0), dot(0, minusZero), dot(0, minusZero)},
		{plane, dot(1, 1), plane}, {dot(1, 1), plane, plane}, {plane, plane, plane}, {of(0, minusZero, 1), of(minusZero, 0, 1), of(minusZero, 0, 1)},
		// Half of a sum of noughts is +0; what is rounded to nought keeps its sign.
		{dot(minusZero, -1), dot(minusZero, 1), of(0, 0, 1)}, {dot(0, -1), dot(-least, 1), of(minusZero, 0, afterOne)}, {dot(0, 0), dot(least, 0), of(0, 0, least)}, {dot(0, 0), dot(least, least), of(0, 0, 2*least)},
		{dot(1, 0), dot(afterOne, 0), of(1, 0, 0x1p-52)}, {dot(afterOne, 0), dot(0x1.0000000000002p0, 0), of(0x1.0000000000002p0, 0, 0x1p-52)},
		{dot(-greatest, 0), dot(greatest, 0), of(0, 0, greatest)}, {dot(greatest, 0), dot(0x1.ffffffffffffep1023, 0), of(0x1.ffffffffffffep1023, 0, 0x1p971)},
		{dot(-greatest, -greatest), dot(greatest, greatest), plane}, {of(-greatest, 0, least), dot(greatest, 0), plane}, {of(-greatest, 0, greatest), of(greatest, 0, greatest), plane},
	} {
		got, err := ball.Hull(c.a, c.b)
		check(t, got, err, c.want, "Hull", c.a, c.b)
	}
}

func TestBA3HullMany(t *testing.T) {
	r := numbers{142}
	for range 2500 {
		a, b := r.pair()
		checkHull(t, a, b)
	}
	all := corners()
	for i, a := range all {
		for j := range 9 {
			checkHull(t, a, all[(i*7+j*19)%len(all)])
		}
	}
}

// TestBA3HullOnce: middles whose sum has more binary digits than a float; a sum rounded first, or halves, would go astray.
func TestBA3HullOnce(t *testing.T) {
	for _, c := range []struct{ x, y, want float64 }{
		{1, afterOne + 0x1p-51, 1 + 0x1p-51}, {0x1p53, 1, 0x1p52}, {0x1p53 + 2, 1, 0x1p52 + 2}, {greatest, greatest - 0x1p971, 0x1.ffffffffffffep1023}, {3 * least, 0, 2 * least}, {least, 2 * least, 2 * least}, {-least, 0, minusZero},
		{greatest, 0x1p1023, 0x1.8p1023},
	} {
		got, err := ball.Hull(dot(c.x, 0), dot(c.y, 0))
		if err != api.OK || !same(real(got.Mid), c.want) {
			t.Errorf("Hull of %x and %x = %x, %v", c.x, c.y, got, err)
		}
		checkHull(t, dot(c.x, 0), dot(c.y, 0))
		checkHull(t, dot(5, c.x), dot(1, c.y))
	}
}

func TestBA3Grow(t *testing.T) {
	for _, c := range []struct {
		b    api.Ball
		more float64
		want api.Ball
	}{
		{of(1, 2, 0.5), 0.25, of(1, 2, 0.75)}, {of(1, 2, 1), least, of(1, 2, afterOne)}, {of(1, 2, 1), 0x1p-52, of(1, 2, afterOne)}, {dot(minusZero, minusZero), 0, dot(minusZero, minusZero)}, {dot(minusZero, 1), minusZero, dot(minusZero, 1)},
		{of(1, 2, 1), minusZero, of(1, 2, 1)}, {dot(minusZero, 3), least, of(minusZero, 3, least)}, {of(1, 0, greatest), least, plane}, {of(1, 0, 1), inf, plane}, {dot(5, 5), inf, plane}, {dot(5, 5), greatest, of(5, 5, greatest)},
		{plane, 0, plane}, {plane, 1, plane}, {plane, inf, plane}, {plane, minusZero, plane},
	} {
		got, err := ball.Grow(c.b, c.more)
		check(t, got, err, c.want, "Grow", c.b, c.more)
	}
	r := numbers{143}
	for range 3000 {
		b, more := r.ball(), math.Abs(r.float())
		want := plane
		if b.Rad < inf {
			want = finite(b.Mid, towards(twice(plus(whole(b.Rad), whole(more))), api.Up))
		}
		got, err := ball.Grow(b, more)
		check(t, got, err, want, "Grow", b, more)
	}
}

func TestBA3Wrong(t *testing.T) {
	wrongMore := append(nans(), -1, -least, -greatest, -inf)
	for _, more := range wrongMore {
		for _, b := range []api.Ball{dot(0, 0), of(1, 2, 3), plane} {
			got, err := ball.Grow(b, more)
			checkErr(t, got, err, api.ErrArg, "Grow", b, more)
		}
	}
	for _, w := range wrongBalls() {
		for _, b := range append(wrongBalls(), dot(0, 0), of(1, 2, 3), plane) {
			got, err := ball.Hull(w, b)
			checkErr(t, got, err, api.ErrBall, "Hull", w, b)
			got, err = ball.Hull(b, w)
			checkErr(t, got, err, api.ErrBall, "Hull", b, w)
		}
		for _, more := range append(wrongMore, 0, 1, inf) { // ErrBall ahead of all
			got, err := ball.Grow(w, more)
			checkErr(t, got, err, api.ErrBall, "Grow", w, more)
		}
	}
}
