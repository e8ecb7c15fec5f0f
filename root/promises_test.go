package root_test

import (
	"testing"

	"cusp/api"
	"cusp/ball"
	"cusp/root"
)

// answers are those of all calls that take balls: of Sqrt, of Both, of Quadratic.
type answers struct {
	balls [5]api.Ball
	side  int
	errs  [3]api.Errno
}

func asked(a, b, c api.Ball) answers {
	var out answers
	out.balls[0], out.side, out.errs[0] = root.Sqrt(a)
	out.balls[1], out.balls[2], out.errs[1] = root.Both(a)
	out.balls[3], out.balls[4], out.errs[2] = root.Quadratic(a, b, c)
	return out
}

// some are three balls: often such that a quadratic of them has zeros.
func (r *numbers) some() (api.Ball, api.Ball, api.Ball) {
	if r.below(2) == 0 {
		return r.leading(), r.modest(), r.modest()
	}
	return r.ball(), r.ball(), r.ball()
}

// exchanged is the side on the other side of the real axis.
func exchanged(side int) int {
	switch side {
	case api.SideAbove:
		return api.SideBelow
	case api.SideBelow:
		return api.SideAbove
	}
	return side
}

// TestP5Conjugate: of the conjugates comes the conjugate, equal and with the same radius, the sides exchanged. (A quadratic's zeros may change places: on the cut the nought of its discriminant tells which is first.)
func TestP5Conjugate(t *testing.T) {
	r := numbers{189}
	cut, places := 0, 0
	for range 2500 {
		a, b, c := r.some()
		got, turned := asked(a, b, c), asked(conjugateBall(a), conjugateBall(b), conjugateBall(c))
		if turned.side != exchanged(got.side) || turned.errs != got.errs {
			t.Errorf("%x, %x, %x: %d, %v, of the conjugates %d, %v", a, b, c, got.side, got.errs, turned.side, turned.errs)
		}
		if got.side == api.SideAbove || got.side == api.SideBelow {
			cut++
		}
		want := got.balls
		for i, w := range want {
			want[i] = conjugateBall(w)
		}
		if !equal(want[3], turned.balls[3]) {
			want[3], want[4] = want[4], want[3]
			places++
		}
		for i, w := range want {
			if !equal(w, turned.balls[i]) {
				t.Errorf("the %d-th of %x, %x, %x = %x, of the conjugates %x", i, a, b, c, got.balls[i], turned.balls[i])
			}
		}
	}
	if cut < 20 || places > 100 {
		t.Error(cut, places)
	}
}

// TestP5Real: the roots of what is on the real axis, with either nought, are conjugates, and a real quadratic's zeros change places at most.
func TestP5Real(t *testing.T) {
	r := numbers{190}
	for range 500 {
		x, rad := r.float(), 0.0
		if r.below(2) == 0 {
			rad = r.ball().Rad
		}
		if rad > greatest {
			continue
		}
		above, sideAbove, _ := root.Sqrt(of(x, 0, rad))
		below, sideBelow, _ := root.Sqrt(of(x, minusZero, rad))
		if !equal(conjugateBall(above), below) || sideBelow != exchanged(sideAbove) {
			t.Errorf("%x, %x: %x, %d and %x, %d", x, rad, above, sideAbove, below, sideBelow)
		}
	}
}

// inner is a ball within another one: a part of it, or some number of it; of a point itself, so that it comes from the same side of the cut.
func (r *numbers) inner(b api.Ball) api.Ball {
	switch {
	case b == plane:
		return r.ball()
	case b.Rad == 0:
		return b
	}
	out := api.Ball{Mid: b.Mid + complex(b.Rad*float64(r.below(100)-50)/128, b.Rad*float64(r.below(100)-50)/128), Rad: b.Rad * float64(r.below(100)) / 256}
	if r.below(3) == 0 {
		out.Rad = 0
	}
	if !ball.Within(out, b) {
		return api.Ball{Mid: b.Mid}
	}
	return out
}

// TestP7Monotone: what comes of balls, and of balls within them, meets, and the hull of both holds both.
func TestP7Monotone(t *testing.T) {
	r := numbers{191}
	narrower, zeros := 0, 0
	for range 2500 {
		a, b, c := r.some()
		d, e, f := r.inner(a), r.inner(b), r.inner(c)
		if d.Rad > 0 && d.Rad < a.Rad {
			narrower++
		}
		outer, got := asked(a, b, c), asked(d, e, f)
		last := 3
		if outer.errs[2] == api.OK && a.Rad > 0 && b.Rad > 0 && c.Rad > 0 {
			last = 5 // the outer discriminant is no point: it does not come from one side of the cut
			zeros++
		}
		for i, o := range outer.balls[:last] {
			g := got.balls[i]
			hull, err := ball.Hull(o, g)
			if !ball.Meets(o, g) || !ball.Within(o, hull) || !ball.Within(g, hull) || err != api.OK || got.errs[(i+1)/2] != api.OK {
				t.Errorf("the %d-th of %x, %x, %x = %x, of the inner %x, %x, %x = %x", i, a, b, c, o, d, e, f, g)
			}
		}
		if got.side == api.SideBoth && outer.side != api.SideBoth {
			t.Errorf("Sqrt(%x): %d, of the inner %x: %d", a, outer.side, d, got.side)
		}
	}
	if narrower < 500 || zeros < 300 {
		t.Error(narrower, zeros)
	}
}

// TestP1Total: every call at all floats ends; what comes out may be, or is nothing beside an error.
func TestP1Total(t *testing.T) {
	floats := anyFloats()
	var all []api.Ball
	for _, x := range floats {
		for _, rad := range floats {
			all = append(all, of(x, -x, rad), of(0, x, rad), of(x, 1, rad), of(x, rad, 0))
		}
	}
	good := corners()
	errs := map[api.Errno]int{}
	for i, a := range all {
		others := good
		if i%3 == 0 {
			others = all
		}
		got := asked(a, others[(i*31+7)%len(others)], others[(i*17+5)%len(others)])
		for k, b := range got.balls {
			err := got.errs[(k+1)/2]
			errs[err]++
			if err == api.OK && !ball.Valid(b) || err != api.OK && !alike(b, api.Ball{}) || err != api.OK && err != api.ErrBall && (k < 3 || err != api.ErrZero) {
				t.Errorf("the %d-th of the %d-th, %x = %x, %v", k, i, a, b, err)
			}
		}
		if got.errs[0] != api.OK && got.side != api.SideNone {
			t.Errorf("Sqrt(%x): %d beside an error", a, got.side)
		}
		for _, mode := range append(wrongModes(), api.Down, api.Near, api.Up) {
			z, err := root.Principal(a.Mid, mode)
			if err == api.OK && !ball.Valid(api.Ball{Mid: z}) || err != api.OK && !sameValue(z, 0) {
				t.Errorf("Principal(%x, %d) = %x, %v", a.Mid, mode, z, err)
			}
		}
	}
	for _, err := range []api.Errno{api.OK, api.ErrBall, api.ErrZero} {
		if errs[err] < 10 {
			t.Error(err, errs)
		}
	}
}

// TestP2Again: the same arguments make the same answers, whatever was asked between.
func TestP2Again(t *testing.T) {
	ask := func(r *numbers) answers { return asked(r.some()) }
	r := numbers{192}
	var first []answers
	for range 300 {
		first = append(first, ask(&r))
	}
	r = numbers{192}
	for i, was := range first {
		again := ask(&r)
		for k, b := range again.balls {
			if !alike(b, was.balls[k]) {
				t.Errorf("asked again, the %d-th of %d: %x, before %x", k, i, b, was.balls[k])
			}
		}
		if again.side != was.side || again.errs != was.errs {
			t.Errorf("asked again, %d: %d, %v, before %d, %v", i, again.side, again.errs, was.side, was.errs)
		}
	}
}
