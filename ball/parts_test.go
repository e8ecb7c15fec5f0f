package ball_test

import (
	"math"
	"math/big"
	"testing"

	"cusp/api"
	"cusp/ball"
	"cusp/span"
)

// wantSide is the least interval of the numbers at most rad away from x.
func wantSide(x, rad float64) api.Interval {
	return between(towards(twice(minus(whole(x), whole(rad))), api.Down), towards(twice(plus(whole(x), whole(rad))), api.Up))
}

// wantAbs: the whole part of a root tells Lo, as floats are whole numbers of 2^-1074.
func wantAbs(b api.Ball) api.Interval {
	p := distance(b.Mid, 0)
	lo := minus(new(big.Int).Sqrt(p), whole(b.Rad))
	if lo.Sign() < 0 {
		lo = new(big.Int)
	}
	return between(towards(twice(lo), api.Down), upper(whole(b.Rad), p))
}

func checkParts(t *testing.T, b api.Ball) {
	t.Helper()
	wantRe, wantIm, wantSize := span.All(), span.All(), between(0, inf)
	if b.Rad < inf {
		wantRe, wantIm, wantSize = wantSide(real(b.Mid), b.Rad), wantSide(imag(b.Mid), b.Rad), wantAbs(b)
	}
	re, im, err := ball.Box(b)
	size, sizeErr := ball.Abs(b)
	if err != api.OK || sizeErr != api.OK {
		t.Errorf("Box, Abs(%v): %v, %v", b, err, sizeErr)
	}
	checkSpan(t, re, wantRe, "Box, real", b)
	checkSpan(t, im, wantIm, "Box, imaginary", b)
	checkSpan(t, size, wantSize, "Abs", b)
}

func TestBA4BoxCases(t *testing.T) {
	for _, c := range []struct {
		b      api.Ball
		re, im api.Interval
	}{
		{of(3, -4, 1), between(2, 4), between(-5, -3)}, {dot(minusZero, minusZero), between(0, 0), between(0, 0)}, {of(1, -1, 1), between(0, 2), between(-2, 0)},
		{of(1, 0, least), between(1-0x1p-53, afterOne), between(-least, least)}, {of(greatest, -greatest, 1), between(0x1.ffffffffffffep1023, inf), between(-inf, -0x1.ffffffffffffep1023)},
		{of(greatest, 0, greatest), between(0, inf), between(-greatest, greatest)}, {plane, span.All(), span.All()},
	} {
		re, im, err := ball.Box(c.b)
		checkSpan(t, re, c.re, "Box, real", c.b)
		checkSpan(t, im, c.im, "Box, imaginary", c.b)
		if err != api.OK {
			t.Error(c.b, err)
		}
	}
}

func TestBA4AbsCases(t *testing.T) {
	for _, c := range []struct {
		b    api.Ball
		want api.Interval
	}{
		{of(3, 4, 1), between(4, 6)}, {of(3, -4, 5), between(0, 10)}, {of(3, 4, 5.5), between(0, 10.5)}, {dot(0, minusZero), between(0, 0)}, {dot(minusZero, minusZero), between(0, 0)}, {of(0, 0, least), between(0, least)},
		{dot(1, 1), between(0x1.6a09e667f3bccp0, 0x1.6a09e667f3bcdp0)}, {of(1, 1, 1), between(0x1.a827999fcef32p-2, 0x1.3504f333f9de7p1)}, {dot(least, least), between(least, 2*least)}, {of(least, least, least), between(0, 3*least)},
		{of(greatest, greatest, 0), between(greatest, inf)}, {of(greatest, greatest, greatest), between(0x1.a827999fcef31p1022, inf)}, {of(greatest, 0, greatest), between(0, inf)}, {dot(0, -greatest), between(greatest, greatest)},
		{of(5, 0, least), between(5-0x1p-50, 5+0x1p-50)}, {plane, between(0, inf)},
	} {
		got, err := ball.Abs(c.b)
		checkSpan(t, got, c.want, "Abs", c.b)
		if err != api.OK {
			t.Error(c.b, err)
		}
	}
}

func TestBA4Many(t *testing.T) {
	for _, b := range corners() {
		checkParts(t, b)
	}
	r := numbers{144}
	for range 3000 {
		b, _ := r.pair()
		checkParts(t, b)
		b.Mid = complex(math.Abs(real(b.Mid)), imag(b.Mid))
		if b.Rad < inf { // so that the least magnitude is near 0, from both sides
			b.Rad = max(0, r.stepped(math.Hypot(real(b.Mid), imag(b.Mid))))
			checkParts(t, b)
		}
	}
}

// wantFrom is BA4's, by the library; span.Mid is chapter 8's.
func wantFrom(re, im api.Interval) api.Ball {
	if re.Lo == -inf || re.Hi == inf || im.Lo == -inf || im.Hi == inf {
		return plane
	}
	var mid [2]float64
	sum := new(big.Int)
	for i, s := range []api.Interval{re, im} {
		mid[i] = towards(plus(whole(s.Lo), whole(s.Hi)), api.Near)
		low, high := minus(whole(mid[i]), whole(s.Lo)), minus(whole(s.Hi), whole(mid[i]))
		if low.Cmp(high) > 0 {
			high = low
		}
		sum = plus(sum, square(high))
	}
	return finite(complex(mid[0], mid[1]), upper(new(big.Int), sum))
}

func TestBA4FromCases(t *testing.T) {
	for _, c := range []struct {
		re, im api.Interval
		want   api.Ball
	}{
		{between(0, 6), between(-4, 4), of(3, 0, 5)}, {between(1, 1), between(2, 2), dot(1, 2)}, {between(0, 0), between(0, 0), dot(0, 0)}, {between(-least, 0), between(0, 0), of(minusZero, 0, least)},
		{between(1, afterOne), between(0, 0), of(1, 0, 0x1p-52)}, {between(0, 3), between(-3, -3), of(1.5, -3, 1.5)}, {between(0, 2), between(0, 2), of(1, 1, 0x1.6a09e667f3bcdp0)},
		{between(1, inf), between(0, 0), plane}, {between(0, 0), between(-inf, 5), plane}, {span.All(), span.All(), plane}, {between(-inf, 0), between(0, inf), plane},
		{between(-greatest, greatest), between(0, 0), of(0, 0, greatest)}, {between(-greatest, greatest), between(0, 0x1p900), plane}, {between(0, greatest), between(5, 5), of(greatest/2, 5, greatest/2)},
	} {
		got, err := ball.From(c.re, c.im)
		check(t, got, err, c.want, "From", c.re, c.im)
	}
}

func (r *numbers) interval() api.Interval {
	lo, hi := r.float()+0, r.float()+0
	switch r.below(6) {
	case 0:
		hi = lo
	case 1, 2:
		hi = r.stepped(lo) + 0
	case 3:
		if r.below(5) == 0 {
			return between(-inf, hi)
		}
	case 4:
		if r.below(5) == 0 {
			return between(lo, inf)
		}
	}
	return between(min(lo, hi), max(lo, hi))
}

func TestBA4FromMany(t *testing.T) {
	r := numbers{145}
	for range 3000 {
		re, im := r.interval(), r.interval()
		got, err := ball.From(re, im)
		check(t, got, err, wantFrom(re, im), "From", re, im)
	}
}

func TestBA4Wrong(t *testing.T) {
	for _, w := range wrongBalls() {
		re, im, err := ball.Box(w)
		checkSpan(t, re, api.Interval{}, "Box", w)
		checkSpan(t, im, api.Interval{}, "Box", w)
		size, sizeErr := ball.Abs(w)
		checkSpan(t, size, api.Interval{}, "Abs", w)
		if err != api.ErrBall || sizeErr != api.ErrBall {
			t.Errorf("Box, Abs(%v): %v, %v", w, err, sizeErr)
		}
	}
	wrong := []api.Interval{between(nan, 1), between(1, nan), between(1, -1), between(0, minusZero), between(minusZero, 0), between(inf, inf), between(-inf, -inf), between(inf, -inf)}
	for _, w := range wrong {
		for _, s := range append(wrong, between(0, 0), between(1, 2), span.All(), between(-inf, 0)) { // ErrArg comes ahead of the plane
			got, err := ball.From(w, s)
			checkErr(t, got, err, api.ErrArg, "From", w, s)
			got, err = ball.From(s, w)
			checkErr(t, got, err, api.ErrArg, "From", s, w)
		}
	}
}
