package root_test

import (
	"math"
	"testing"

	"cusp/api"
	"cusp/root"
)

// A rooted is a value, and what its root is rounded down, to the nearest and up.
type rooted struct {
	z    complex128
	want [3]complex128
}

func checkRoots(t *testing.T, z complex128, want [3]complex128) {
	t.Helper()
	for i, mode := range []int{api.Down, api.Near, api.Up} {
		checkPrincipal(t, z, mode, want[i])
	}
}

func checkRooted(t *testing.T, list []rooted) {
	t.Helper()
	for _, c := range list {
		checkRoots(t, c.z, c.want)
		for i, want := range wantRoots(c.z) {
			if want != c.want[i] {
				t.Errorf("the library's root of %x = %x, want %x", c.z, want, c.want[i])
			}
		}
	}
}

// TestRO1Exact: what is exact is the same by every mode; a part that is exactly nought is +0, the imaginary one with the sign of the value's.
func TestRO1Exact(t *testing.T) {
	for _, c := range []struct{ z, want complex128 }{
		{-4, 2i}, {complex(-4, minusZero), -2i}, {2i, 1 + 1i}, {-2i, 1 - 1i}, {3 + 4i, 2 + 1i}, {3 - 4i, 2 - 1i}, {-3 + 4i, 1 + 2i}, {-3 - 4i, 1 - 2i}, {5 + 12i, 3 + 2i}, {-7 - 24i, 3 - 4i},
		{complex(minusZero, 2), 1 + 1i}, {complex(minusZero, -2), 1 - 1i}, {4, 2}, {complex(4, minusZero), complex(2, minusZero)}, {-1, 1i}, {complex(-1, minusZero), -1i}, {0.25, 0.5}, {complex(-0.25, minusZero), -0.5i},
		{0, 0}, {complex(minusZero, 0), 0}, {complex(0, minusZero), complex(0, minusZero)}, {complex(minusZero, minusZero), complex(0, minusZero)},
		{least, 0x1p-537}, {complex(-least, minusZero), -0x1p-537i}, {0x1p1022, 0x1p511}, {-0x1p1022, 0x1p511i}, {complex(3*0x1p1000, 0x1p1002), complex(0x1p501, 0x1p500)}, {complex(0, 2*least), complex(0x1p-537, 0x1p-537)}, {complex(0, -0x1p1023), complex(0x1p511, -0x1p511)}, {complex(-3*least, 4*least), complex(0x1p-537, 0x1p-536)},
	} {
		want := complex(real(c.want), math.Copysign(imag(c.want), imag(c.z))) // a constant has no -0
		checkRooted(t, []rooted{{c.z, [3]complex128{want, want, want}}})
	}
}

// TestRO1Cut: from below, Down is away from nought.
func TestRO1Cut(t *testing.T) {
	const low, high = 0x1.6a09e667f3bccp0, 0x1.6a09e667f3bcdp0 // around the root of 2
	checkRooted(t, []rooted{
		{complex(-2, 0), [3]complex128{complex(0, low), complex(0, high), complex(0, high)}},
		{complex(-2, minusZero), [3]complex128{complex(0, -high), complex(0, -high), complex(0, -low)}},
		{complex(2, 0), [3]complex128{complex(low, 0), complex(high, 0), complex(high, 0)}},
		{complex(2, minusZero), [3]complex128{complex(low, minusZero), complex(high, minusZero), complex(high, minusZero)}},
		{complex(-greatest, 0), [3]complex128{complex(0, 0x1.fffffffffffffp511), complex(0, 0x1.fffffffffffffp511), complex(0, 0x1p512)}},
		{complex(-greatest, minusZero), [3]complex128{complex(0, -0x1p512), complex(0, -0x1.fffffffffffffp511), complex(0, -0x1.fffffffffffffp511)}},
		// Hardly beside it the root is hardly another one, on the side where the value is.
		{complex(-1, least), [3]complex128{complex(0, 1), complex(0, 1), complex(least, afterOne)}},
		{complex(-1, -least), [3]complex128{complex(0, -afterOne), complex(0, -1), complex(least, -1)}},
	})
}

// TestRO1Between: each part is rounded once, also where it is hardly above a float or below one, or one halfway.
func TestRO1Between(t *testing.T) {
	checkRooted(t, []rooted{
		{complex(1, 1), [3]complex128{complex(0x1.19435caffa9f8p0, 0x1.d203138f6c828p-2), complex(0x1.19435caffa9f9p0, 0x1.d203138f6c828p-2), complex(0x1.19435caffa9f9p0, 0x1.d203138f6c829p-2)}},
		{complex(-1, -1), [3]complex128{complex(0x1.d203138f6c828p-2, -0x1.19435caffa9f9p0), complex(0x1.d203138f6c828p-2, -0x1.19435caffa9f9p0), complex(0x1.d203138f6c829p-2, -0x1.19435caffa9f8p0)}},
		{complex(-1, 0x1p-60), [3]complex128{complex(0x1.fffffffffffffp-62, 1), complex(0x1p-61, 1), complex(0x1p-61, afterOne)}},
		{complex(1, 0x1p-60), [3]complex128{complex(1, 0x1.fffffffffffffp-62), complex(1, 0x1p-61), complex(afterOne, 0x1p-61)}},
		{complex(4, 0x1p-1000), [3]complex128{complex(2, 0x1.fffffffffffffp-1003), complex(2, 0x1p-1002), complex(0x1.0000000000001p1, 0x1p-1002)}},
		// Among the least floats: hardly less than half of one, than one and a half, than two and a half; a nought has the side's sign.
		{complex(1, -least), [3]complex128{complex(1, -least), complex(1, minusZero), complex(afterOne, minusZero)}},
		{complex(-1, 3*least), [3]complex128{complex(least, 1), complex(least, 1), complex(2*least, afterOne)}},
		{complex(-1, -3*least), [3]complex128{complex(least, -afterOne), complex(least, -1), complex(2*least, -1)}},
		{complex(1, 5*least), [3]complex128{complex(1, 2*least), complex(1, 2*least), complex(afterOne, 3*least)}},
		{complex(-4, least), [3]complex128{complex(0, 2), complex(0, 2), complex(least, 0x1.0000000000001p1)}},
		{complex(greatest, least), [3]complex128{complex(0x1.fffffffffffffp511, 0), complex(0x1.fffffffffffffp511, 0), complex(0x1p512, least)}},
		{complex(-greatest, -least), [3]complex128{complex(0, -0x1p512), complex(0, -0x1.fffffffffffffp511), complex(least, -0x1.fffffffffffffp511)}},
		// Of the least and of the greatest parts.
		{complex(least, least), [3]complex128{complex(0x1.19435caffa9f8p-537, 0x1.d203138f6c828p-539), complex(0x1.19435caffa9f9p-537, 0x1.d203138f6c828p-539), complex(0x1.19435caffa9f9p-537, 0x1.d203138f6c829p-539)}},
		{complex(least, -2*least), [3]complex128{complex(0x1.45a3146a88455p-537, -0x1.92826ef258d1cp-538), complex(0x1.45a3146a88456p-537, -0x1.92826ef258d1bp-538), complex(0x1.45a3146a88456p-537, -0x1.92826ef258d1bp-538)}},
		{complex(0, least), [3]complex128{complex(0x1.6a09e667f3bccp-538, 0x1.6a09e667f3bccp-538), complex(0x1.6a09e667f3bcdp-538, 0x1.6a09e667f3bcdp-538), complex(0x1.6a09e667f3bcdp-538, 0x1.6a09e667f3bcdp-538)}},
		{complex(greatest, greatest), [3]complex128{complex(0x1.19435caffa9f8p512, 0x1.d203138f6c827p510), complex(0x1.19435caffa9f8p512, 0x1.d203138f6c828p510), complex(0x1.19435caffa9f9p512, 0x1.d203138f6c828p510)}},
		{complex(-greatest, -greatest), [3]complex128{complex(0x1.d203138f6c827p510, -0x1.19435caffa9f9p512), complex(0x1.d203138f6c828p510, -0x1.19435caffa9f8p512), complex(0x1.d203138f6c828p510, -0x1.19435caffa9f8p512)}},
	})
}

func TestRO1Many(t *testing.T) {
	r := numbers{181}
	for range 1500 {
		z := r.value()
		checkRoots(t, z, wantRoots(z))
	}
	for _, b := range corners() {
		if b.Rad == 0 {
			checkRoots(t, b.Mid, wantRoots(b.Mid))
		}
	}
}

// TestRO1Wrong: a mode that is none goes ahead of a NaN, and a NaN, whichever part it is, ahead of an infinity.
func TestRO1Wrong(t *testing.T) {
	wrong := func(z complex128, mode int, want api.Errno) {
		t.Helper()
		if got, err := root.Principal(z, mode); !sameValue(got, 0) || err != want {
			t.Errorf("Principal(%v, %d) = %v, %v, want the error %v", z, mode, got, err, want)
		}
	}
	for _, x := range anyFloats() {
		for _, y := range anyFloats() {
			z := complex(x, y)
			for _, mode := range wrongModes() {
				wrong(z, mode, api.ErrArg)
			}
			for _, mode := range []int{api.Down, api.Near, api.Up} {
				switch {
				case x != x || y != y:
					wrong(z, mode, api.ErrNaN)
				case math.IsInf(x, 0) || math.IsInf(y, 0):
					wrong(z, mode, api.ErrInf)
				}
			}
		}
	}
}
