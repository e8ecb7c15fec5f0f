package root_test

import (
	"testing"

	"cusp/api"
	"cusp/ball"
	"cusp/plus"
	"cusp/root"
)

// A side is a ball, what its root is, and which side is told.
type side struct {
	b, want api.Ball
	side    int
}

func checkSides(t *testing.T, list []side) {
	t.Helper()
	for _, c := range list {
		checkSqrt(t, c.b, c.want, c.side)
		if want, side := wantSqrt(c.b); !equal(want, c.want) || side != c.side {
			t.Errorf("the library's root of %x = %x, %d, want %x, %d", c.b, want, side, c.want, c.side)
		}
	}
}

// TestRO2Points: what rounding leaves open, part by part, is the radius; on the cut the nought tells the side.
func TestRO2Points(t *testing.T) {
	const two = 0x1.6a09e667f3bcdp0 // the root of 2
	checkSides(t, []side{
		{dot(4, 0), dot(2, 0), api.SideNone}, {dot(4, minusZero), dot(2, minusZero), api.SideNone}, {dot(3, 4), dot(2, 1), api.SideNone}, {dot(-3, -4), dot(1, -2), api.SideNone}, {dot(0, 2), dot(1, 1), api.SideNone}, {dot(minusZero, -2), dot(1, -1), api.SideNone},
		{dot(-1, 0), dot(0, 1), api.SideAbove}, {dot(-1, minusZero), dot(0, -1), api.SideBelow}, {dot(-2, 0), of(0, two, 0x1p-52), api.SideAbove}, {dot(-2, minusZero), of(0, -two, 0x1p-52), api.SideBelow}, {dot(-least, 0), dot(0, 0x1p-537), api.SideAbove}, {dot(-least, minusZero), dot(0, -0x1p-537), api.SideBelow}, {dot(-greatest, minusZero), of(0, -0x1.fffffffffffffp511, 0x1p459), api.SideBelow},
		// 0 is not on the cut, nor what is hardly beside it.
		{dot(0, 0), dot(0, 0), api.SideNone}, {dot(minusZero, 0), dot(0, 0), api.SideNone}, {dot(0, minusZero), dot(0, minusZero), api.SideNone}, {dot(minusZero, minusZero), dot(0, minusZero), api.SideNone}, {dot(least, minusZero), dot(0x1p-537, minusZero), api.SideNone}, {dot(-1, least), of(0, 1, 0x1.0000000000001p-52), api.SideNone}, {dot(-1, -least), of(0, -1, 0x1.0000000000001p-52), api.SideNone}, {dot(-greatest, -least), of(0, -0x1.fffffffffffffp511, 0x1.0000000000001p459), api.SideNone},
		// The differences of both parts are added.
		{dot(2, 0), of(two, 0, 0x1p-52), api.SideNone}, {dot(2, minusZero), of(two, minusZero, 0x1p-52), api.SideNone}, {dot(1, 1), of(0x1.19435caffa9f9p0, 0x1.d203138f6c828p-2, 0x1.4p-52), api.SideNone}, {dot(-1, 1), of(0x1.d203138f6c828p-2, 0x1.19435caffa9f9p0, 0x1.4p-52), api.SideNone}, {dot(1, least), of(1, 0, 0x1.0000000000001p-52), api.SideNone}, {dot(1, -least), of(1, minusZero, 0x1.0000000000001p-52), api.SideNone}, {dot(1, 0x1p-60), of(1, 0x1p-61, 0x1.0000000000001p-52), api.SideNone}, {dot(least, least), of(0x1.19435caffa9f9p-537, 0x1.d203138f6c828p-539, 0x1.4p-589), api.SideNone},
	})
}

// TestRO2Ray: a ball with a radius that meets the real numbers up to 0, on its rim too, has both roots of its numbers around 0.
func TestRO2Ray(t *testing.T) {
	checkSides(t, []side{
		{of(-1, 0, 0.5), of(0, 0, 1.2247448713915892), api.SideBoth}, {of(-1, minusZero, 0.5), of(0, 0, 1.2247448713915892), api.SideBoth}, {of(0, 0, 1), of(0, 0, 1), api.SideBoth}, {of(minusZero, minusZero, 1), of(0, 0, 1), api.SideBoth}, {of(-1, 0, least), of(0, 0, afterOne), api.SideBoth}, {of(-1, 0, 3), of(0, 0, 2), api.SideBoth},
		{of(1, 0, 1), of(0, 0, 0x1.6a09e667f3bcdp0), api.SideBoth}, {of(3, 4, 5), of(0, 0, 0x1.94c583ada5b53p1), api.SideBoth}, {of(-1, 1, 1), of(0, 0, 0x1.8dc42193d5c04p0), api.SideBoth}, {of(-3, -4, 4), of(0, 0, 3), api.SideBoth}, {of(1, 1, 0x1.6a09e667f3bcdp0), of(0, 0, 0x1.ae89f995ad3aep0), api.SideBoth}, {of(-4, least, least), of(0, 0, 0x1.0000000000001p1), api.SideBoth},
		{of(0, 0, least), of(0, 0, 0x1p-537), api.SideBoth}, {of(least, 0, least), of(0, 0, 0x1.6a09e667f3bcdp-537), api.SideBoth}, {of(0, 0, greatest), of(0, 0, 0x1p512), api.SideBoth}, {plane, plane, api.SideBoth}, {of(greatest, 0, greatest), plane, api.SideBoth}, {of(-beforeMost, 0, 0x1p971), of(0, 0, 0x1p512), api.SideBoth}, {of(-greatest, 0, least), plane, api.SideBoth},
	})
}

// TestRO2OneSide: a ball beside the cut. The radius is rounded in many steps, each of them told. (Of {4, 1} the chapter's example has the float after the one that its rule comes to: the rule is held.)
func TestRO2OneSide(t *testing.T) {
	checkSides(t, []side{
		{of(4, 0, 1), of(2, 0, 0x1.126145e9ecd57p-2), api.SideNone}, {of(4, minusZero, 1), of(2, minusZero, 0x1.126145e9ecd57p-2), api.SideNone}, {of(0, 1, 0.5), of(0x1.6a09e667f3bcdp-1, 0x1.6a09e667f3bcdp-1, 0x1.2bec33301886cp-2), api.SideNone}, {of(3, 4, 1), of(2, 1, 0x1.e3779b97f4a7ep-3), api.SideNone}, {of(-3, -4, 3), of(1, -2, 0x1.a4ca1a1615b07p-1), api.SideNone}, {of(1, 1, 1), of(0x1.19435caffa9f9p0, 0x1.d203138f6c828p-2, 0x1.175a91adf7e52p-1), api.SideNone}, {of(5, 0, 4), of(0x1.1e3779b97f4a8p1, 0, 0x1.3c6ef372fe953p0), api.SideNone},
		// The rim comes hardly short of the cut, or of 0.
		{of(-1, 1, beforeOne), of(0x1.d203138f6c828p-2, 0x1.19435caffa9f9p0, 0x1.175a91adf7e50p-1), api.SideNone}, {of(1, 0, beforeOne), of(1, 0, 0x1.ffffffa57d868p-1), api.SideNone}, {of(1, 1, 0x1.6a09e667f3bccp0), of(0x1.19435caffa9f9p0, 0x1.d203138f6c828p-2, 0x1.306fe07304449p0), api.SideNone}, {of(-4, 2*least, least), of(0, 2, 0x1.0000000000002p-51), api.SideNone},
		// A radius that is hardly one, among the least floats, and among the greatest.
		{of(4, 0, least), of(2, 0, least), api.SideNone}, {of(1, 1, least), of(0x1.19435caffa9f9p0, 0x1.d203138f6c828p-2, 0x1.4000000000001p-52), api.SideNone}, {of(least, least, least), of(0x1.19435caffa9f9p-537, 0x1.d203138f6c828p-539, 0x1.0000000000002p-537), api.SideNone}, {of(2*least, 0, least), of(0x1.6a09e667f3bcdp-537, 0, 0x1.a827999fcef37p-539), api.SideNone}, {of(3*least, 0, least), of(0x1.bb67ae8584caap-537, 0, 0x1.457720764437cp-539), api.SideNone},
		{of(greatest, 0, beforeMost), of(0x1.fffffffffffffp511, 0, 0x1.ffffffa57d868p511), api.SideNone}, {of(greatest, greatest, greatest), of(0x1.19435caffa9f8p512, 0x1.d203138f6c828p510, 0x1.37832d07fe7dfp511), api.SideNone}, {of(0, greatest, beforeMost), of(0x1.6a09e667f3bccp511, 0x1.6a09e667f3bccp511, 0x1.ffffffa57d869p511), api.SideNone},
	})
}

// TestRO2Tight: where all that is rounded is exact, the radius leads just to the root of the number that is nearest to 0.
func TestRO2Tight(t *testing.T) {
	for _, c := range [][3]float64{{3, 4, 5}, {5, 0, 5}, {12, -5, 13}, {15, 8, 17}, {7, -24, 25}} {
		u, v, n := c[0], c[1], c[2]
		for k := 1.0; k < n; k++ {
			b := of(u*u-v*v, 2*u*v, n*n-k*k)
			if !wantRay(b) {
				checkSqrt(t, b, of(u, v, n-k), api.SideNone)
			}
		}
	}
}

func TestRO2Many(t *testing.T) {
	r := numbers{182}
	for range 3000 {
		b := r.ball()
		want, side := wantSqrt(b)
		checkSqrt(t, b, want, side)
	}
	for _, b := range corners() {
		want, side := wantSqrt(b)
		checkSqrt(t, b, want, side)
	}
}

func TestRO2Wrong(t *testing.T) {
	for _, w := range wrongBalls() {
		if got, side, err := root.Sqrt(w); !alike(got, api.Ball{}) || side != api.SideNone || err != api.ErrBall {
			t.Errorf("Sqrt(%v) = %v, %d, %v", w, got, side, err)
		}
		if one, other, err := root.Both(w); !alike(one, api.Ball{}) || !alike(other, api.Ball{}) || err != api.ErrBall {
			t.Errorf("Both(%v) = %v, %v, %v", w, one, other, err)
		}
	}
}

func checkBoth(t *testing.T, b, wantOne, wantOther api.Ball) {
	t.Helper()
	if one, other, err := root.Both(b); !alike(one, wantOne) || !alike(other, wantOther) || err != api.OK {
		t.Errorf("Both(%x) = %x, %x, %v, want %x, %x", b, one, other, err, wantOne, wantOther)
	}
}

// TestRO3Both: the root of a ball, and that turned in its signs, noughts' too.
func TestRO3Both(t *testing.T) {
	for _, c := range [][3]api.Ball{
		{dot(4, 0), dot(2, 0), dot(-2, minusZero)}, {dot(4, minusZero), dot(2, minusZero), dot(-2, 0)}, {dot(-4, 0), dot(0, 2), dot(minusZero, -2)}, {dot(-4, minusZero), dot(0, -2), dot(minusZero, 2)}, {dot(3, 4), dot(2, 1), dot(-2, -1)}, {dot(0, 0), dot(0, 0), dot(minusZero, minusZero)},
		{of(25, 0, 9), of(5, 0, 1), of(-5, minusZero, 1)}, {of(-1, 0, 3), of(0, 0, 2), of(minusZero, minusZero, 2)}, {plane, plane, plane},
	} {
		checkBoth(t, c[0], c[1], c[2])
	}
	r := numbers{183}
	for range 500 {
		b := r.ball()
		one, _ := wantSqrt(b)
		other, _ := plus.Neg(one)
		checkBoth(t, b, one, other)
		if !ball.Valid(other) {
			t.Error(other, "may not be")
		}
	}
}
