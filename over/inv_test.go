package over_test

import (
	"math"
	"testing"

	"cusp/api"
	"cusp/over"
)

func checkZero(t *testing.T, b api.Ball, want bool) {
	t.Helper()
	if got, err := over.Zero(b); got != want || err != api.OK {
		t.Errorf("Zero(%v) = %v, %v, want %v", b, got, err, want)
	}
}

// TestOV1Cases: 0 on the rim lies in the ball, however little of it: also where squares go beyond the floats.
func TestOV1Cases(t *testing.T) {
	for _, c := range []struct {
		b    api.Ball
		want bool
	}{
		{plane, true}, {dot(0, 0), true}, {dot(minusZero, minusZero), true}, {dot(minusZero, 0), true}, {of(0, minusZero, 1), true}, {dot(1, 0), false}, {dot(0, -1), false}, {of(2, 0, 1), false}, {of(1, 0, 2), true}, {of(-1, 0, 1), true}, {of(1, 0, beforeOne), false}, {of(afterOne, 0, 1), false},
		{of(3, 4, 5), true}, {of(-3, 4, 5), true}, {of(3, -4, 4.999999999999999), false}, {of(-3, -4, 5.000000000000001), true}, {of(1, 1, 1.4142135623730951), true}, {of(1, 1, 1.414213562373095), false}, {of(0, -2, 2), true}, {of(5, 12, 13), true}, {of(5, afterOne*12, 13), false},
		{of(1, least, 1), false}, {of(least, 1, 1), false}, {of(1, least, afterOne), true}, {of(1, 0x1p-600, 1), false}, {dot(least, 0), false}, {dot(0, -least), false}, {of(least, 0, least), true}, {of(least, least, least), false}, {of(least, least, 2*least), true}, {of(3*least, 4*least, 5*least), true}, {of(3*least, 4*least, 4*least), false}, {of(1e-200, 0, 1e-201), false}, {of(1e-200, 1e-200, 1e-200), false},
		{of(greatest, 0, greatest), true}, {of(greatest, 0, beforeMost), false}, {of(0, -greatest, greatest), true}, {of(greatest, greatest, greatest), false}, {of(greatest, least, greatest), false}, {of(beforeMost, least, greatest), true}, {of(0x1.8p1022, 0x1p1023, 0x1.4p1023), true}, {of(1e200, 1e200, 1e200), false}, {of(1e200, 1e200, 1.5e200), true},
	} {
		checkZero(t, c.b, c.want)
		if got := wantZero(c.b); got != c.want {
			t.Errorf("the library tells of 0 in %v: %v", c.b, got)
		}
	}
}

func TestOV1Many(t *testing.T) {
	r := numbers{171}
	for range 6000 {
		b := r.ball()
		checkZero(t, b, wantZero(b))
	}
	for _, b := range corners() {
		checkZero(t, b, wantZero(b))
	}
}

func TestOV1Wrong(t *testing.T) {
	for _, w := range wrongBalls() {
		if got, err := over.Zero(w); got || err != api.ErrBall {
			t.Errorf("Zero(%v) = %v, %v", w, got, err)
		}
	}
}

// A pair are a ball and what its inverse is.
type pair struct{ b, want api.Ball }

func checkInvs(t *testing.T, pairs []pair) {
	t.Helper()
	for _, p := range pairs {
		got, err := over.Inv(p.b)
		check(t, got, err, p.want, "Inv", p.b)
		check(t, wantInv(p.b), api.OK, p.want, "the library's", p.b)
	}
}

// TestOV2Points: with radius 0 what the middle lost is the radius.
func TestOV2Points(t *testing.T) {
	checkInvs(t, []pair{
		{dot(0, 2), dot(0, -0.5)}, {dot(4, 0), dot(0.25, minusZero)}, {dot(1, 0), dot(1, minusZero)}, {dot(1, 1), dot(0.5, -0.5)}, {dot(-2, 2), dot(-0.25, -0.25)}, {dot(3, 0), of(0x1.5555555555555p-2, minusZero, 0x1.5555555555556p-56)}, {dot(3, 3), of(0x1.5555555555555p-3, -0x1.5555555555555p-3, 0x1.5555555555556p-56)}, {dot(0, 3), of(0, -0x1.5555555555555p-2, 0x1.5555555555556p-56)},
		// Noughts have the signs of x and -y, those that a part is rounded to as well.
		{dot(-4, minusZero), dot(-0.25, 0)}, {dot(-4, 0), dot(-0.25, minusZero)}, {dot(4, minusZero), dot(0.25, 0)}, {dot(minusZero, 2), dot(minusZero, -0.5)}, {dot(0, -2), dot(0, 0.5)}, {dot(minusZero, -2), dot(minusZero, 0.5)}, {dot(greatest, least), of(0x1p-1024, minusZero, least)}, {dot(greatest, -least), of(0x1p-1024, 0, least)}, {dot(-least, greatest), of(minusZero, -0x1p-1024, least)}, {dot(least, -greatest), of(0, 0x1p-1024, least)},
		// The square of the magnitude is exact, however far its parts are from one another.
		{dot(1, least), of(1, -least, least)}, {dot(-least, 1), of(-least, -1, least)}, {dot(1, 0x1p-60), of(1, -0x1p-60, 0x1.0000000000001p-120)}, {dot(0x1p500, 0x1p-500), of(0x1p-500, minusZero, least)}, {dot(0x1p200, 0x1p-200), of(0x1p-200, -0x1p-600, 0x1.0000000000001p-1000)},
		// About the greatest and the least float.
		{dot(greatest, 0), of(0x1p-1024, minusZero, least)}, {dot(greatest, greatest), of(0x1p-1025, -0x1p-1025, least)}, {dot(0x1p1023, 0), dot(0x1p-1023, minusZero)}, {dot(0x1p-1023, 0), dot(0x1p1023, minusZero)}, {dot(0, 0x1p-1023), dot(0, -0x1p1023)}, {dot(0x1p-1024, 0x1p-1024), dot(0x1p1023, -0x1p1023)}, {dot(0x1.0000000000004p-1024, 0), of(0x1.ffffffffffff8p1023, minusZero, 0x1.ffffffffffff9p923)},
		{dot(-0x1p-1024, 0x1p-1050), of(-beforeMost, -0x1.ffffffffffffep997, 0x1.0000003ffffffp920)}, {dot(0x1p-1024, 0x1.8p-1051), of(greatest, -0x1.7ffffffffffffp997, 0x1.0000004fffffbp968)}, {dot(0x1p-1024, 0x1p-1051), plane},
		{dot(0x1p-1024, 0), plane}, {dot(0, -0x1p-1024), plane}, {dot(-0x1p-1024, 0x1p-1052), plane}, {dot(least, 0), plane}, {dot(0, least), plane}, {dot(least, -least), plane}, {dot(3*least, 4*least), plane}, {dot(0, 0), plane}, {dot(minusZero, 0), plane}, {dot(0, minusZero), plane}, {dot(minusZero, minusZero), plane},
	})
}

// TestOV2Discs: the radius is rounded up once: in the first ones what it comes to is a float, as it is by no way in steps.
func TestOV2Discs(t *testing.T) {
	checkInvs(t, []pair{
		{of(2, 0, 1), of(0x1.5555555555555p-1, minusZero, 0x1.5555555555556p-2)}, {of(1, 0, 0.5), of(0x1.5555555555555p0, minusZero, 0x1.5555555555556p-1)}, {of(1, 0, beforeOne), of(0x1p52, minusZero, 0x1p52)}, {of(0, -2, 1), of(0, 0x1.5555555555555p-1, 0x1.5555555555556p-2)},
		{of(5, 0, 3), of(0.3125, minusZero, 0.1875)}, {of(3, 4, 3), of(0.1875, -0.25, 0.1875)}, {of(-3, 4, 3), of(-0.1875, -0.25, 0.1875)}, {of(1.25, minusZero, 0.75), of(1.25, 0, 0.75)}, {of(minusZero, -1.25, 0.75), of(minusZero, 1.25, 0.75)}, {of(4, 4, 4), of(0.25, -0.25, 0.25)}, {of(-1, -1, 1), of(-1, 1, 1)},
		{of(1, 0, least), of(1, minusZero, 2*least)}, {of(1, 0, 0x1p-60), of(1, minusZero, 0x1.0000000000001p-60)}, {of(2, 0, least), of(0.5, minusZero, least)}, {of(0.5, 0, least), of(2, minusZero, 5*least)},
		// 0 on the rim, and hardly beyond it.
		{of(1, 0, 1), plane}, {of(3, 4, 5), plane}, {of(-3, -4, 6), plane}, {of(0, 0, 1), plane}, {of(1, 1, 1.4142135623730951), plane}, {of(1, least, afterOne), plane}, {of(least, 0, least), plane}, {of(greatest, 0, greatest), plane}, {of(0, 0, greatest), plane}, {plane, plane},
		{of(1, 1, 1.414213562373095), of(0x1.409a06d56e564p51, -0x1.409a06d56e564p51, 0x1.c56633a09ce2p51)}, {of(1, 0x1p-500, 1), of(0x1p1000, -0x1p500, 0x1p1000)}, {of(1, 0x1p-512, 1), plane}, {of(1, 0x1p-520, 1), plane}, {of(1, least, 1), plane},
		{of(greatest, 0, beforeMost), of(0x1p-972, minusZero, 0x1p-972)}, {of(greatest, greatest, greatest), of(0x1p-1024, -0x1p-1024, 0x1.0000000000004p-1024)}, {of(greatest, 0, least), of(0x1p-1024, minusZero, least)},
		// The radius alone goes beyond the greatest float.
		{of(0x1.02d0e56041893p-972, 0x1.02d0e56041893p-972, 0x1.6e0566a2f39a3p-972), plane}, {of(-0x1.083126e978d5p-972, 0x1.083126e978d5p-972, 0x1.759fb887f3585p-972), plane},
		{of(3*least, 0, 2*least), plane}, {of(0x1p-1022, 0, 0x1p-1023), of(0x1.5555555555555p1022, minusZero, 0x1.5555555555556p1021)}, {of(0x1p-1023, 0, 0x1p-1024), of(0x1.5555555555555p1023, minusZero, 0x1.5555555555556p1022)}, {of(0x1p-1024, 0, 0x1p-1025), plane},
	})
}

func checkInv(t *testing.T, b api.Ball) {
	t.Helper()
	got, err := over.Inv(b)
	check(t, got, err, wantInv(b), "Inv", b)
}

func TestOV2Many(t *testing.T) {
	r := numbers{172}
	for range 4000 {
		checkInv(t, r.ball())
		checkInv(t, r.modest())
	}
	for _, b := range corners() {
		checkInv(t, b)
	}
}

// TestOV2Whole: parts so small and whole that middle and radius are exact where the room is a power of two.
func TestOV2Whole(t *testing.T) {
	seen := 0
	for x := -9.0; x <= 9; x++ {
		for y := -9.0; y <= 9; y++ {
			for rad := 0.0; rad*rad < x*x+y*y; rad++ {
				d := x*x + y*y - rad*rad
				if frac, _ := math.Frexp(d); frac != 0.5 {
					continue
				}
				seen++
				got, err := over.Inv(of(x, y, rad))
				if want := of(x/d, -y/d, rad/d); !equal(got, want) || err != api.OK {
					t.Errorf("Inv of %v, %v with %v = %v, %v, want %v", x, y, rad, got, err, want)
				}
			}
		}
	}
	if seen < 100 {
		t.Error(seen)
	}
}

func TestOV2Wrong(t *testing.T) {
	for _, w := range wrongBalls() {
		got, err := over.Inv(w)
		checkErr(t, got, err, api.ErrBall, "Inv", w)
	}
}
