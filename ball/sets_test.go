package ball_test

import (
	"math"
	"testing"

	"cusp/api"
	"cusp/ball"
)

func TestBA1Valid(t *testing.T) {
	for _, b := range wrongBalls() {
		checkIs(t, ball.Valid(b), false, "Valid", b)
	}
	for _, b := range append(corners(), api.Ball{}, of(greatest, -greatest, greatest), of(0, 0, least)) {
		checkIs(t, ball.Valid(b), true, "Valid", b)
	}
}

// TestBA1Of: of all triples of floats, as the words have it.
func TestBA1Of(t *testing.T) {
	isNaN, isInf := math.IsNaN, func(f float64) bool { return math.IsInf(f, 0) }
	for _, x := range anyFloats() {
		for _, y := range anyFloats() {
			for _, rad := range anyFloats() {
				got, err := ball.Of(complex(x, y), rad)
				switch {
				case isNaN(x) || isNaN(y) || isNaN(rad):
					checkErr(t, got, err, api.ErrNaN, "Of", x, y, rad)
				case isInf(x) || isInf(y):
					checkErr(t, got, err, api.ErrInf, "Of", x, y, rad)
				case rad < 0:
					checkErr(t, got, err, api.ErrArg, "Of", x, y, rad)
				case rad == inf:
					check(t, got, err, plane, "Of", x, y, rad)
				default:
					check(t, got, err, of(x, y, rad+0), "Of", x, y, rad)
				}
				may := !isNaN(x) && !isNaN(y) && !isInf(x) && !isInf(y) && rad >= 0 && !math.Signbit(rad) && rad < inf
				checkIs(t, ball.Valid(of(x, y, rad)), may || alike(of(x, y, rad), plane), "Valid", x, y, rad)
			}
		}
	}
}

func TestBA1OfCases(t *testing.T) {
	got, err := ball.Of(complex(minusZero, minusZero), minusZero) // the signs of Mid are kept
	check(t, got, err, dot(minusZero, minusZero), "Of", "-0-0i", "-0")
	got, err = ball.Of(complex(inf, nan), -1)
	checkErr(t, got, err, api.ErrNaN, "Of", inf, nan, -1)
	got, err = ball.Of(complex(inf, 0), -1)
	checkErr(t, got, err, api.ErrInf, "Of", inf, 0, -1)
	got, err = ball.Of(5i, inf)
	check(t, got, err, plane, "Of", 5i, inf)
	got, err = ball.Of(5i, -inf)
	checkErr(t, got, err, api.ErrArg, "Of", 5i, -inf)
}

func TestBA1Plane(t *testing.T) {
	if got := ball.Plane(); !alike(got, plane) {
		t.Errorf("Plane() = %v", got)
	}
	checkIs(t, ball.Whole(ball.Plane()), true, "Whole", plane)
	for _, b := range append(wrongBalls(), corners()...) {
		checkIs(t, ball.Whole(b), alike(b, plane), "Whole", b)
	}
}

// TestBA1Same: of any bits; NaNs are one.
func TestBA1Same(t *testing.T) {
	all := append(wrongBalls(), corners()...)
	for _, a := range all {
		for _, b := range all {
			checkIs(t, ball.Same(a, b), alike(a, b), "Same", a, b)
		}
	}
	checkIs(t, ball.Same(of(0, 0, 1), of(0, minusZero, 1)), false, "Same", "noughts")
	checkIs(t, ball.Same(of(nan, inf, nan), of(-nan, inf, nan)), true, "Same", "NaNs")
}

func wantHas(b api.Ball, z complex128) bool {
	if math.IsNaN(real(z)+imag(z)) || math.IsInf(real(z), 0) || math.IsInf(imag(z), 0) {
		return false
	}
	return b.Rad == inf || atMost(distance(b.Mid, z), whole(b.Rad))
}

func wantWithin(a, b api.Ball) bool {
	if a.Rad == inf || b.Rad == inf {
		return b.Rad == inf
	}
	return atMost(distance(a.Mid, b.Mid), minus(whole(b.Rad), whole(a.Rad)))
}

func wantMeets(a, b api.Ball) bool {
	return a.Rad == inf || b.Rad == inf || atMost(distance(a.Mid, b.Mid), plus(whole(b.Rad), whole(a.Rad)))
}

// wantRay: left of 0 the ray's nearest number lies straight above or below Mid, right of it it is 0.
func wantRay(b api.Ball) bool {
	switch {
	case b.Rad == inf:
		return true
	case real(b.Mid) <= 0:
		return math.Abs(imag(b.Mid)) <= b.Rad
	}
	return atMost(distance(b.Mid, 0), whole(b.Rad))
}

func TestBA2Cases(t *testing.T) {
	checkIs(t, ball.Has(of(0, 0, 5), 3+4i), true, "Has", 5)
	checkIs(t, ball.Has(of(0, 0, 4.999999999999999), 3+4i), false, "Has", "below 5")
	checkIs(t, ball.Has(dot(0, 1), complex(minusZero, 1)), true, "Has", "-0")
	checkIs(t, ball.Has(plane, complex(greatest, -greatest)), true, "Has", "the plane")
	for _, z := range []complex128{complex(inf, 0), complex(0, -inf), complex(nan, 0), complex(0, nan), complex(inf, nan)} {
		checkIs(t, ball.Has(plane, z), false, "Has", plane, z)
		checkIs(t, ball.Has(of(0, 0, greatest), z), false, "Has", greatest, z)
	}
	checkIs(t, ball.Within(of(1, 0, 1), of(0, 0, 2)), true, "Within", 1, 2)
	checkIs(t, ball.Within(of(1, 0, afterOne), of(0, 0, 2)), false, "Within", afterOne, 2)
	checkIs(t, ball.Within(of(0, 0, 2), of(1, 0, 1)), false, "Within", 2, 1) // as far apart as allowed, but the wrong way round
	checkIs(t, ball.Within(of(0, 0, 1), of(0, 0, 1-0x1p-53)), false, "Within", 1, "less")
	checkIs(t, ball.Meets(of(0, 0, 1), of(2, 0, 1)), true, "Meets", 1, 1)
	checkIs(t, ball.Meets(of(0, 0, 1), of(2, 0, 1-0x1p-53)), false, "Meets", 1, "less")
	checkIs(t, ball.Meets(of(-greatest, 0, greatest), of(greatest, 0, greatest)), true, "Meets", greatest)
	checkIs(t, ball.Meets(of(-greatest, least, greatest), of(greatest, 0, greatest)), false, "Meets", greatest, least)
	checkIs(t, ball.Meets(dot(0, 0), dot(minusZero, minusZero)), true, "Meets", "noughts")
	for rad, want := range map[float64]bool{1: false, 1.4142135623730951: true, 1.414213562373095: false} {
		checkIs(t, ball.Ray(of(1, 1, rad)), want, "Ray", rad)
	}
	for _, b := range []api.Ball{plane, dot(0, 0), dot(0, minusZero), dot(minusZero, 0), dot(-1, minusZero), dot(-greatest, 0), of(-5, 1, 1), of(-5, -1, 1), of(3, 0, 3), of(3, -4, 5), of(least, 0, least)} {
		checkIs(t, ball.Ray(b), true, "Ray", b)
	}
	for _, b := range []api.Ball{dot(least, 0), dot(0, least), dot(-1, -least), of(-5, 1, 1-0x1p-53), of(3, 0, 3-0x1p-51), of(3, 4, 5-0x1p-50), of(greatest, greatest, greatest), of(1, least, 1)} {
		checkIs(t, ball.Ray(b), false, "Ray", b)
	}
}

func TestBA2Corners(t *testing.T) {
	all := corners()
	for _, a := range all {
		checkIs(t, ball.Ray(a), wantRay(a), "Ray", a)
		for _, b := range all {
			checkIs(t, ball.Within(a, b), wantWithin(a, b), "Within", a, b)
			checkIs(t, ball.Meets(a, b), wantMeets(a, b), "Meets", a, b)
		}
		for _, x := range anyFloats() {
			for _, y := range []float64{0, minusZero, -4, 1, least, greatest, inf, nan} {
				checkIs(t, ball.Has(a, complex(x, y)), wantHas(a, complex(x, y)), "Has", a, x, y)
			}
		}
	}
}

func TestBA2Many(t *testing.T) {
	r := numbers{141}
	for range 8000 {
		a, b := r.pair()
		checkIs(t, ball.Within(a, b), wantWithin(a, b), "Within", a, b)
		checkIs(t, ball.Meets(a, b), wantMeets(a, b), "Meets", a, b)
		checkIs(t, ball.Has(b, a.Mid), wantHas(b, a.Mid), "Has", b, a.Mid)
		checkIs(t, ball.Ray(a), wantRay(a), "Ray", a)
		z := r.nearTo(a.Mid)
		checkIs(t, ball.Has(a, z), wantHas(a, z), "Has", a, z)
	}
}

func TestBA2Wrong(t *testing.T) {
	for _, w := range wrongBalls() {
		checkIs(t, ball.Ray(w), false, "Ray", w)
		for _, b := range append(wrongBalls(), dot(0, 0), of(0, 0, greatest), plane) {
			checkIs(t, ball.Within(w, b), false, "Within", w, b)
			checkIs(t, ball.Within(b, w), false, "Within", b, w)
			checkIs(t, ball.Meets(w, b), false, "Meets", w, b)
			checkIs(t, ball.Meets(b, w), false, "Meets", b, w)
			checkIs(t, ball.Has(w, b.Mid), false, "Has", w, b.Mid)
		}
		checkIs(t, ball.Has(w, w.Mid), false, "Has", w, w.Mid)
	}
}
