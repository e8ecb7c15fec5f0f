package bexp_test

import (
	"testing"

	"cusp/api"
	"cusp/ball"
	"cusp/bexp"
)

// TestP1Total: every call at all floats ends; what comes out may be, or is nothing beside an error.
func TestP1Total(t *testing.T) {
	floats := anyFloats()
	errs := map[api.Errno]int{}
	check := func(got api.Ball, err api.Errno, args ...float64) {
		t.Helper()
		errs[err]++
		if err == api.OK && !ball.Valid(got) || err != api.OK && !alike(got, api.Ball{}) {
			t.Errorf("of %x: %x, %v", args, got, err)
		}
	}
	for i, x := range floats {
		got, err := bexp.Cis(x)
		check(got, err, x)
		for k, y := range floats {
			for _, rad := range floats {
				got, err := bexp.Exp(of(x, y, rad))
				check(got, err, x, y, rad)
				last := floats[(i*7+k*3)%len(floats)]
				got, err = bexp.Polar(from(x, y), from(rad, last))
				check(got, err, x, y, rad, last)
				got, err = bexp.Polar(from(rad, last), from(x, y))
				check(got, err, rad, last, x, y)
			}
		}
	}
	for _, err := range []api.Errno{api.OK, api.ErrBall, api.ErrNaN, api.ErrDom, api.ErrInf} {
		if errs[err] < 100 {
			t.Error(err, errs)
		}
	}
	if len(errs) != 5 {
		t.Error(errs)
	}
}

// TestP2Again: the same arguments make the same answers, whatever was asked between.
func TestP2Again(t *testing.T) {
	ask := func(r *numbers) [3]api.Ball {
		exp, _ := bexp.Exp(r.ball())
		polar, _ := bexp.Polar(r.lengths(), r.span(r.float()))
		cis, _ := bexp.Cis(r.float())
		return [3]api.Ball{exp, polar, cis}
	}
	r := numbers{199}
	var first [][3]api.Ball
	for range 300 {
		first = append(first, ask(&r))
	}
	r = numbers{199}
	for i, was := range first {
		for k, b := range ask(&r) {
			if !alike(b, was[k]) {
				t.Errorf("asked again, the %d-th of %d: %x, before %x", k, i, b, was[k])
			}
		}
	}
}

// TestP5Real: of what is around a real number comes what is, on either side of the axis.
func TestP5Real(t *testing.T) {
	r := numbers{200}
	for range 1000 {
		x := r.power()
		rad := min(greatest, r.radius(x))
		above, errAbove := bexp.Exp(of(x, 0, rad))
		below, errBelow := bexp.Exp(of(x, minusZero, rad))
		if imag(above.Mid) != 0 || !alike(below, conjugateBall(above)) || errAbove != api.OK || errBelow != api.OK {
			t.Errorf("%x, %x: %x and %x", x, rad, above, below)
		}
	}
}

// inner is a ball within another one: a part of it, or some number of it; of a point itself.
func (r *numbers) inner(b api.Ball) api.Ball {
	switch {
	case b == plane:
		return r.ball()
	case b.Rad == 0:
		return b
	}
	out := api.Ball{Mid: b.Mid + complex(b.Rad*float64(r.below(100)-50)/128, b.Rad*float64(r.below(100)-50)/128), Rad: b.Rad * float64(r.below(100)) / 256}
	if r.below(3) == 0 {
		out.Rad = 0
	}
	if !ball.Within(out, b) {
		return api.Ball{Mid: b.Mid}
	}
	return out
}

// part is an interval within another one with two ends.
func (r *numbers) part(s api.Interval) api.Interval {
	f := min(max(s.Lo, s.Lo/2+s.Hi/2), s.Hi)
	switch r.below(4) {
	case 0:
		return from(f, f)
	case 1:
		return from(s.Lo, f)
	case 2:
		return from(f, s.Hi)
	}
	return from(s.Hi, s.Hi)
}

// TestP7Monotone: what comes of balls, of intervals, and of such within them, meets, and the hull of both holds both.
func TestP7Monotone(t *testing.T) {
	r := numbers{201}
	narrower := 0
	check := func(outer, got api.Ball) {
		t.Helper()
		hull, err := ball.Hull(outer, got)
		if !ball.Meets(outer, got) || !ball.Within(outer, hull) || !ball.Within(got, hull) || err != api.OK {
			t.Errorf("%x, of what lies within %x, the hull %x", outer, got, hull)
		}
		if outer != plane && !alike(outer, got) {
			narrower++
		}
	}
	for range 3000 {
		b := r.ball()
		outer, _ := bexp.Exp(b)
		got, err := bexp.Exp(r.inner(b))
		if err != api.OK {
			t.Errorf("of a ball within %x: %v", b, err)
		}
		check(outer, got)
		abs, arg := r.lengths(), r.span(r.float())
		outer, _ = bexp.Polar(abs, arg)
		got, err = bexp.Polar(r.part(abs), r.part(arg))
		if err != api.OK {
			t.Errorf("of what lies within %x, %x: %v", abs, arg, err)
		}
		check(outer, got)
	}
	if narrower < 1500 {
		t.Error(narrower)
	}
}
