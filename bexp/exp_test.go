package bexp_test

import (
	"testing"

	"cusp/api"
	"cusp/bexp"
)

// checkRows holds what comes of balls against what is written beside them, and that against the tests' reckoning.
func checkRows(t *testing.T, list [][2]api.Ball) {
	t.Helper()
	for _, c := range list {
		checkExp(t, c[0], c[1])
		if want := wantExp(c[0]); !alike(want, c[1]) {
			t.Errorf("the library's exponential of %x = %x, want %x", c[0], want, c[1])
		}
	}
}

// TestBE1Points: what rounding leaves open, part by part, is the radius; the nought of the imaginary part stays.
func TestBE1Points(t *testing.T) {
	checkRows(t, [][2]api.Ball{
		{dot(0, 0), dot(1, 0)}, {dot(0, minusZero), dot(1, minusZero)}, {dot(minusZero, minusZero), dot(1, minusZero)}, {dot(1, 0), of(0x1.5bf0a8b14576ap1, 0, 0x1p-51)}, {dot(1, minusZero), of(0x1.5bf0a8b14576ap1, minusZero, 0x1p-51)}, {dot(-1, 0), of(0x1.78b56362cef38p-2, 0, 0x1p-54)}, {dot(2, minusZero), of(0x1.d8e64b8d4ddaep2, minusZero, 0x1p-50)}, {dot(0.5, 0), of(0x1.a61298e1e069cp0, 0, 0x1p-52)}, {dot(least, 0), of(1, 0, 0x1p-52)}, {dot(-least, minusZero), of(1, minusZero, 0x1p-53)}, {dot(0, 1), of(0x1.14a280fb5068cp-1, 0x1.aed548f090ceep-1, 0x1p-52)}, {dot(0, -1), of(0x1.14a280fb5068cp-1, -0x1.aed548f090ceep-1, 0x1p-52)}, {dot(1, 1), of(0x1.77fc5377c5a96p0, 0x1.24c80edc62064p1, 0x1.8p-50)}, {dot(-1, 2), of(-0x1.39883a62d5ddcp-3, 0x1.568a44dad4c12p-2, 0x1.4p-53)}, {dot(0, pi), of(-1, 0x1.1a62633145c06p-53, 0x1.0000000000001p-53)}, {dot(0, -pi), of(-1, -0x1.1a62633145c06p-53, 0x1.0000000000001p-53)}, {dot(0, pi/2), of(0x1.1a62633145c06p-54, 1, 0x1.0000000000001p-53)}, {dot(-0.5, -2), of(-0x1.0276ab8846deap-2, -0x1.1a6067e4f3641p-1, 0x1.8p-53)}, {dot(0, least), of(1, 0, 0x1.0000000000001p-53)}, {dot(0, -least), of(1, minusZero, 0x1.0000000000001p-53)}, {dot(least, -least), of(1, -least, 0x1.0000000000001p-52)}, {dot(0, 0.1), of(0x1.fd712f9a817cp-1, 0x1.98eaecb8bcb2cp-4, 0x1.2p-53)}, {dot(3, -4), of(-0x1.a41efdb2650eep3, 0x1.e66cd389cd7f4p3, 0x1p-47)}, {dot(1, 1e22), of(0x1.6c1843a7d01fcp0, -0x1.2883cbafe0a52p1, 0x1.8p-50)}, {dot(0, greatest), of(-0x1.fffe62ecfab76p-1, 0x1.452fc98b34e96p-8, 0x1.02p-53)}, {dot(-2, -0x1p1023), of(-0x1.ca1596eb1fd39p-4, -0x1.382915feb4a6ep-4, 0x1p-54)},
	})
}

// TestBE1Ends: where exponentials go beyond the greatest float, and below the least one.
func TestBE1Ends(t *testing.T) {
	checkRows(t, [][2]api.Ball{
		{dot(lastExp, 0), of(0x1.fffffffffff2ap1023, 0, 0x1p971)}, {dot(lastExp, minusZero), of(0x1.fffffffffff2ap1023, minusZero, 0x1p971)}, {dot(lastExp, 1), of(0x1.14a280fb50618p1023, 0x1.aed548f090c3ap1023, 0x1.8p972)}, {dot(0x1.62e42fefa39fp9, 0), plane}, {dot(0x1.62e42fefa39fp9, pi/2), plane}, {dot(710, -3), plane}, {dot(800, 0), plane}, {dot(greatest, minusZero), plane}, {dot(-708, 1), of(0x0.cd9b8bc9b0ebep-1022, 0x1.4037018979a67p-1022, 2*least)}, {dot(firstExp, 0), of(0, 0, least)}, {dot(-0x1.74910d52d3052p9, 0), of(0, 0, least)}, {dot(-744, 2), of(minusZero, least, 2*least)}, {dot(-744.5, -1), of(0, minusZero, 2*least)}, {dot(-745, -2), of(minusZero, minusZero, 2*least)}, {dot(-1000, 0), of(0, 0, least)}, {dot(-1000, minusZero), of(0, minusZero, least)}, {dot(-1000, 1), of(0, 0, 2*least)}, {dot(-1000, -1), of(0, minusZero, 2*least)}, {dot(-1000, 3), of(minusZero, 0, 2*least)}, {dot(-1000, -3), of(minusZero, minusZero, 2*least)}, {dot(-greatest, least), of(0, 0, 2*least)}, {dot(-greatest, -greatest), of(minusZero, minusZero, 2*least)},
	})
}

// TestBE1Discs: the radius grows as the exponential does.
func TestBE1Discs(t *testing.T) {
	checkRows(t, [][2]api.Ball{
		{of(0, 0, 0.5), of(1, 0, 0x1.4c2531c3c0d38p-1)}, {of(0, minusZero, 0.5), of(1, minusZero, 0x1.4c2531c3c0d38p-1)}, {of(0, 0, 1), of(1, 0, 0x1.b7e151628aed3p0)}, {of(0, 0, least), of(1, 0, 2*least)}, {of(0, least, least), of(1, 0, 0x1.0000000000001p-53)}, {of(1, 0, least), of(0x1.5bf0a8b14576ap1, 0, 0x1.0000000000001p-51)}, {of(1, 1, 0.25), of(0x1.77fc5377c5a96p0, 0x1.24c80edc62064p1, 0x1.8b4b98a728e28p-1)}, {of(1, -1, 0.25), of(0x1.77fc5377c5a96p0, -0x1.24c80edc62064p1, 0x1.8b4b98a728e28p-1)}, {of(-1, 2, 3), of(-0x1.39883a62d5ddcp-3, 0x1.568a44dad4c12p-2, 0x1.c15af55720ebbp2)}, {of(0, pi, 0x1p-60), of(-1, 0x1.1a62633145c06p-53, 0x1.0200000000002p-53)}, {of(2, -3, 1e-10), of(-0x1.d42ac3880f572p2, -0x1.0af13f8da5098p0, 0x1.9638083c80eabp-31)}, {of(-0.5, 4, 10), of(-0x1.95f845bc96f4ap-2, -0x1.d60a5d9a1d48p-2, 0x1.a178f65f52c03p13)}, {of(0, 1e22, 1), of(0x1.0be2cef01c8f4p-1, -0x1.b453ab76bf398p-1, 0x1.b7e151628aed4p0)}, {of(-1000, 1, 1), of(0, 0, 4*least)}, {of(-1000, 0, 0.5), of(0, 0, 2*least)}, {of(-1000, 0, 0.8), of(0, 0, 3*least)}, {of(-700, 2, 700), of(-0x1.cd011080b276p-1012, 0x1.f7a7fec56025dp-1011, 0x1.0000000000002p0)}, {of(-10, 1, 20), of(0x1.9b8a33cafeae7p-16, 0x1.4077b968d84ecp-15, 0x1.5829dced69994p14)},
	})
}

// TestBE1DiscEnds: radii whose exponentials go beyond the greatest float make the plane, however little the middle's is; so do those that only come to it with the middle's.
func TestBE1DiscEnds(t *testing.T) {
	checkRows(t, [][2]api.Ball{
		{of(0, 0, lastExp), of(1, 0, 0x1.fffffffffff2bp1023)}, {of(0, minusZero, 0x1.62e42fefa39fp9), plane}, {of(-1000, 1, lastExp), of(0, 0, 0x1.fffffffffff2cp-51)}, {of(-1000, 1, 0x1.62e42fefa39fp9), plane}, {of(-greatest, 0, 710), plane}, {of(0, 0, greatest), plane}, {of(1, 1, 800), plane}, {of(709, 2, 1), of(-0x1.85a06c6c6d9cp1021, 0x1.a9acc55182524p1022, 0x1.9231df69721a8p1023)}, {of(709.78, 0, 0.5), of(0x1.fe9ce5c4c52b4p1023, 0, 0x1.4b3ed4f56f9f1p1023)}, {of(709.78, 0, 0.7), plane}, {of(lastExp, 0, 0x1.62e42fefa39efp-1), of(0x1.fffffffffff2ap1023, 0, 0x1.fffffffffff2cp1023)}, {of(lastExp, 0, 0x1.62e42fefa39fp-1), of(0x1.fffffffffff2ap1023, 0, 0x1.fffffffffff2ep1023)}, {of(709.5, 1, 0.8), of(0x1.a104ef2762edbp1022, 0x1.44bc09780650ap1023, 0x1.d8f3bae43bafap1023)}, {of(709.5, 1, 0.9), plane}, {of(greatest, 0, greatest), plane}, {of(-greatest, minusZero, least), of(0, minusZero, 2*least)},
	})
}

// TestBE1Plane: of the plane it is the plane.
func TestBE1Plane(t *testing.T) { checkExp(t, plane, plane) }

func TestBE1Many(t *testing.T) {
	r := numbers{191}
	planes, points, discs := 0, 0, 0
	for range 6000 {
		b := r.ball()
		want := wantExp(b)
		checkExp(t, b, want)
		switch {
		case want == plane:
			planes++
		case b.Rad == 0:
			points++
		default:
			discs++
		}
	}
	if planes < 300 || points < 1000 || discs < 1000 {
		t.Error(planes, points, discs)
	}
}

func TestBE1Wrong(t *testing.T) {
	for _, w := range wrongBalls() {
		if got, err := bexp.Exp(w); !alike(got, api.Ball{}) || err != api.ErrBall {
			t.Errorf("Exp(%v) = %v, %v", w, got, err)
		}
	}
}
