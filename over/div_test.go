package over_test

import (
	"testing"

	"cusp/api"
	"cusp/over"
	"cusp/plus"
	"cusp/times"
)

// wantDiv is OV3's, of balls that may be.
func wantDiv(a, b api.Ball) api.Ball {
	out, _ := times.Mul(a, wantInv(b))
	return out
}

func checkDiv(t *testing.T, a, b api.Ball) {
	t.Helper()
	got, err := over.Div(a, b)
	check(t, got, err, wantDiv(a, b), "Div", a, b)
}

func TestOV3DivCases(t *testing.T) {
	for _, c := range []struct{ a, b, want api.Ball }{
		{dot(1, 0), dot(4, 0), dot(0.25, 0)}, {dot(6, 0), dot(2, 0), dot(3, 0)}, {dot(1, 0), dot(0, 1), dot(0, -1)}, {dot(1, 2), dot(1, 1), dot(1.5, 0.5)}, {of(1, 0, 0.5), dot(2, 0), of(0.5, 0, 0.25)}, {dot(3, 4), of(1.25, 0, 0.75), of(3.75, 5, 3.75)}, {of(2, 0, 1), of(5, 0, 3), of(0.625, 0, 0.875)},
		// By way of the inverse: what that lost is not got back.
		{dot(3, 0), dot(3, 0), of(1, 0, 0x1.0000000000001p-53)}, {dot(greatest, 0), dot(greatest, 0), of(beforeOne, 0, 0x1.fffffffffffffp-51)}, {dot(least, 0), dot(least, 0), plane}, {dot(0, 0), dot(least, 0), plane},
		// 0 in the one is all well, in the other one not.
		{dot(0, 0), dot(2, 0), dot(0, 0)}, {of(0, 0, 1), dot(2, 0), of(0, 0, 0.5)}, {dot(0, 0), dot(0, 0), plane}, {dot(0, 0), of(1, 0, 1), plane}, {dot(1, 1), of(3, 4, 5), plane}, {of(3, 4, 5), dot(2, 0), of(1.5, 2, 2.5)},
		{plane, dot(2, 0), plane}, {dot(2, 0), plane, plane}, {plane, plane, plane}, {dot(0, 0), plane, plane}, {plane, dot(0, 0), plane}, {dot(greatest, 0), dot(0.5, 0), plane},
		// Noughts by the product's rule.
		{dot(-4, minusZero), dot(2, 0), dot(-2, 0)}, {dot(-4, minusZero), dot(2, minusZero), dot(-2, minusZero)}, {dot(minusZero, 0), dot(2, 0), dot(0, 0)}, {dot(0, minusZero), dot(2, 0), dot(0, minusZero)}, {dot(minusZero, minusZero), dot(2, 0), dot(minusZero, 0)}, {dot(-4, 0), dot(-2, minusZero), dot(2, minusZero)},
	} {
		got, err := over.Div(c.a, c.b)
		check(t, got, err, c.want, "Div", c.a, c.b)
		checkDiv(t, c.a, c.b)
	}
}

func TestOV3DivMany(t *testing.T) {
	r := numbers{173}
	for range 2500 {
		checkDiv(t, r.ball(), r.ball())
		checkDiv(t, r.modest(), r.modest())
	}
	all := corners()
	for i, a := range all {
		checkDiv(t, a, a)
		for k := range 10 {
			checkDiv(t, a, all[(i*7+k*13)%len(all)])
		}
	}
}

func TestOV3DivWrong(t *testing.T) {
	for _, w := range wrongBalls() {
		for _, b := range append(wrongBalls(), dot(0, 0), dot(minusZero, 1), of(1, 2, 3), of(1, 2, 1), plane, of(greatest, 0, greatest)) {
			got, err := over.Div(w, b)
			checkErr(t, got, err, api.ErrBall, "Div", w, b)
			got, err = over.Div(b, w)
			checkErr(t, got, err, api.ErrBall, "Div", b, w)
		}
	}
}

// wantLine is a * z + b.
func wantLine(a complex128, z api.Ball, b complex128) api.Ball {
	product, _ := times.Mul(api.Ball{Mid: a}, z)
	sum, _ := plus.Add(product, api.Ball{Mid: b})
	return sum
}

func checkMobius(t *testing.T, m [4]complex128, z api.Ball) {
	t.Helper()
	got, err := over.Mobius(m[0], m[1], m[2], m[3], z)
	check(t, got, err, wantDiv(wantLine(m[0], z, m[1]), wantLine(m[2], z, m[3])), "Mobius", m, z)
}

func TestOV3MobiusCases(t *testing.T) {
	for _, c := range []struct {
		m       [4]complex128
		z, want api.Ball
	}{
		{[4]complex128{1, 0, 0, 1}, of(2, 3, 0.5), of(2, 3, 0.5)}, {[4]complex128{2, 1i, 0, 1}, of(2, 3, 0.5), of(4, 7, 1)}, {[4]complex128{1, 0, 0, 4}, dot(2, 3), dot(0.5, 0.75)}, {[4]complex128{0, 1, 1, 0}, dot(0, 2), dot(0, -0.5)}, {[4]complex128{1, 2, 3, 4}, dot(-1, 0), dot(1, 0)}, {[4]complex128{1, 2, 3, 5}, dot(-1, 0), dot(0.5, 0)}, {[4]complex128{3, 5, 1, 2}, dot(0, 0), dot(2.5, 0)},
		// The half plane above goes to the disc about 0.
		{[4]complex128{1, -1i, 1, 1i}, dot(0, 1), dot(0, 0)}, {[4]complex128{1, -1i, 1, 1i}, dot(1, 0), dot(0, -1)}, {[4]complex128{1, -1i, 1, 1i}, dot(0, 0), dot(-1, 0)}, {[4]complex128{1, -1i, 1, 1i}, dot(0, -1), plane}, {[4]complex128{1, -1i, 1, 1i}, of(0, 0, 1), plane},
		// What is above and below is not held against one another: of (z + 1) / (z + 1) comes more than 1.
		{[4]complex128{1, 1, 1, 1}, of(4, 0, 3), of(1.5625, 0, 2.4375)}, {[4]complex128{0, 0, 0, 1}, of(4, 0, 3), dot(0, 0)},
		{[4]complex128{1, 0, 0, 0}, dot(1, 0), plane}, {[4]complex128{0, 0, 0, 0}, dot(1, 0), plane}, {[4]complex128{1, 0, 1, -1}, dot(1, 0), plane}, {[4]complex128{1, 0, 1, -1}, of(2, 0, 1), plane}, {[4]complex128{0, 1, 0, 1}, plane, plane}, {[4]complex128{0, 0, 0, 1}, plane, plane}, {[4]complex128{1, 2, 3, 4}, plane, plane}, {[4]complex128{greatest, 0, 0, 1}, dot(2, 0), plane}, {[4]complex128{0, 1, greatest, 0}, dot(2, 0), plane},
	} {
		got, err := over.Mobius(c.m[0], c.m[1], c.m[2], c.m[3], c.z)
		if !equal(got, c.want) || err != api.OK {
			t.Errorf("Mobius(%v, %v) = %v, %v, want %v", c.m, c.z, got, err, c.want)
		}
		checkMobius(t, c.m, c.z)
	}
}

// four are finite numbers.
func (r *numbers) four() [4]complex128 {
	out := [4]complex128{r.value(), r.value(), r.value(), r.value()}
	if r.below(2) == 0 {
		for i := range out {
			out[i] = r.modest().Mid
		}
	}
	return out
}

func TestOV3MobiusMany(t *testing.T) {
	r := numbers{174}
	disc := 0
	for range 2500 {
		z := r.ball()
		if r.below(2) == 0 {
			z = r.modest()
		}
		m := r.four()
		checkMobius(t, m, z)
		if got, _ := over.Mobius(m[0], m[1], m[2], m[3], z); got != plane {
			disc++
		}
	}
	if disc < 600 {
		t.Error(disc)
	}
	for _, z := range corners() {
		checkMobius(t, [4]complex128{1, 0, 0, 1}, z)
		checkMobius(t, [4]complex128{complex(minusZero, 1), complex(minusZero, minusZero), complex(0, minusZero), complex(-1, minusZero)}, z)
		checkMobius(t, [4]complex128{greatest, least, least, 1i}, z)
	}
}

// TestOV3MobiusWrong: a ball that may not be goes ahead of a NaN, and a NaN, wherever it is, ahead of an infinity: of the plane too.
func TestOV3MobiusWrong(t *testing.T) {
	var bad []complex128 // with a NaN; then with an infinity alone
	for _, f := range append(nans(), inf, -inf) {
		bad = append(bad, complex(f, 0), complex(1, f), complex(f, f), complex(f, nan))
	}
	infinities := []complex128{complex(inf, 0), complex(0, -inf), complex(-inf, inf), complex(1, inf)}
	ask := func(m [4]complex128, z api.Ball, want api.Errno) {
		t.Helper()
		got, err := over.Mobius(m[0], m[1], m[2], m[3], z)
		checkErr(t, got, err, want, "Mobius", m, z)
	}
	for _, z := range []api.Ball{dot(0, 0), of(1, 2, 3), of(1, 2, 1), plane, of(greatest, 0, greatest)} {
		for i := range 4 {
			for _, v := range bad {
				m := [4]complex128{1, 2, 3, 4}
				m[i] = v
				want := api.ErrInf
				if v != v {
					want = api.ErrNaN
				}
				ask(m, z, want)
				for k := range 4 {
					for _, w := range infinities {
						if k != i {
							m[k] = w
							ask(m, z, want)
						}
					}
				}
			}
		}
	}
	for _, w := range wrongBalls() {
		ask([4]complex128{1, 2, 3, 4}, w, api.ErrBall)
		for _, v := range bad {
			ask([4]complex128{v, 0, 0, 1}, w, api.ErrBall)
			ask([4]complex128{1, 0, 0, v}, w, api.ErrBall)
		}
	}
}
