package bexp_test

import (
	"testing"

	"cusp/api"
	"cusp/bexp"
)

// TestBE2Cis: the point on the unit circle; a nought stays the imaginary part.
func TestBE2Cis(t *testing.T) {
	for _, c := range []struct {
		x    float64
		want api.Ball
	}{
		{0, dot(1, 0)}, {minusZero, dot(1, minusZero)}, {1, of(0x1.14a280fb5068cp-1, 0x1.aed548f090ceep-1, 0x1p-52)}, {-1, of(0x1.14a280fb5068cp-1, -0x1.aed548f090ceep-1, 0x1p-52)}, {pi, of(-1, 0x1.1a62633145c06p-53, 0x1.0000000000001p-53)}, {-pi, of(-1, -0x1.1a62633145c06p-53, 0x1.0000000000001p-53)}, {pi / 2, of(0x1.1a62633145c06p-54, 1, 0x1.0000000000001p-53)}, {0.1, of(0x1.fd712f9a817cp-1, 0x1.98eaecb8bcb2cp-4, 0x1.2p-53)}, {least, of(1, 0, 0x1.0000000000001p-53)}, {-least, of(1, minusZero, 0x1.0000000000001p-53)}, {0x1p-27, of(1, 0x1p-27, 0x1.0000002p-53)}, {1e22, of(0x1.0be2cef01c8f4p-1, -0x1.b453ab76bf398p-1, 0x1p-52)}, {-1e22, of(0x1.0be2cef01c8f4p-1, 0x1.b453ab76bf398p-1, 0x1p-52)}, {greatest, of(-0x1.fffe62ecfab76p-1, 0x1.452fc98b34e96p-8, 0x1.02p-53)}, {-greatest, of(-0x1.fffe62ecfab76p-1, -0x1.452fc98b34e96p-8, 0x1.02p-53)}, {0x1.8p1001, of(0x1.c6399e8b707bp-1, -0x1.d88a50486fabp-2, 0x1.8p-53)},
	} {
		checkCis(t, c.x, c.want)
		if want := wantExp(dot(0, c.x)); !alike(want, c.want) {
			t.Errorf("the library's point at %x = %x, want %x", c.x, want, c.want)
		}
	}
}

func TestBE2CisMany(t *testing.T) {
	r := numbers{192}
	for range 2000 {
		x := r.float()
		checkCis(t, x, wantExp(dot(0, x)))
	}
}

func TestBE2CisWrong(t *testing.T) {
	check := func(x float64, want api.Errno) {
		t.Helper()
		if got, err := bexp.Cis(x); !alike(got, api.Ball{}) || err != want {
			t.Errorf("Cis(%v) = %v, %v", x, got, err)
		}
	}
	for _, f := range nans() {
		check(f, api.ErrNaN)
	}
	check(inf, api.ErrInf)
	check(-inf, api.ErrInf)
}

// TestBE2Polar: what rounding leaves open, part by part, and the greatest magnitude as often as the argument's half says.
func TestBE2Polar(t *testing.T) {
	for _, c := range []struct {
		abs, arg api.Interval
		want     api.Ball
	}{
		{from(2, 2), from(0, 0), dot(2, 0)}, {from(0, 0), from(1, 2), dot(0, 0)}, {from(0, 0), from(0, 0), dot(0, 0)}, {from(1, 2), from(0, 0), of(1.5, 0, 0.5)}, {from(1, 2), from(0, 1), of(0x1.50fde04c49dfcp0, 0x1.7032e57384474p-1, 0x1.adb2710204013p0)}, {from(1, 2), from(-1, 0), of(0x1.50fde04c49dfcp0, -0x1.7032e57384474p-1, 0x1.adb2710204013p0)}, {from(1, 1), from(-1, 1), of(1, 0, 1)}, {from(3, 3), from(pi, pi), of(-3, 0x1.a79394c9e8a0ap-52, 0x1.0000000000001p-51)}, {from(3, 3), from(-pi, -pi), of(-3, -0x1.a79394c9e8a0ap-52, 0x1.0000000000001p-51)}, {from(0.5, 0.75), from(2, 3), of(-0x1.005daf5b3772fp-1, 0x1.7f05ad143bd5dp-2, 0x1.19934dfaaaac7p-1)}, {from(0.1, 0.3), from(-4, -3.5), of(-0x1.5019e286b865fp-3, 0x1.d43918a54d69dp-4, 0x1.b6b4d10649272p-3)}, {from(0, 5), from(-0.25, 1e22), of(-0x1.1743aec4bf3f4p1, 0x1.387ba47d4575bp0, 0x1.52d02c7e14af7p74)}, {from(1, 1), from(0, least), of(1, 0, least)}, {from(1, 1), from(-least, 0), of(1, 0, least)}, {from(1, 1), from(-least, -least), of(1, minusZero, 0x1.0000000000001p-53)}, {from(1, 1), from(least, least), of(1, 0, 0x1.0000000000001p-53)}, {from(least, least), from(1, 1), of(0, 0, 2*least)}, {from(0, least), from(2, 4), of(minusZero, 0, 3*least)}, {from(least, 2*least), from(-1, -1), of(least, -least, 2*least)}, {from(0, greatest), from(0, 0), of(halfMost, 0, halfMost)}, {from(greatest, greatest), from(0, 0), dot(greatest, 0)}, {from(greatest, greatest), from(1, 1), of(0x1.14a280fb5068bp1023, 0x1.aed548f090ceep1023, 0x1p972)}, {from(0, greatest), from(1, 1), of(0x1.14a280fb5068cp1022, 0x1.aed548f090cefp1022, 0x1.61bbe4f5f09bep1023)}, {from(0, greatest), from(0, 1), plane}, {from(1, greatest), from(-greatest, greatest), plane}, {from(0, least), from(-greatest, greatest), of(0, 0, 0x1p-50)}, {from(least, 0.5), from(-greatest, greatest), of(0.25, 0, 0x1p1023)}, {from(least, 0.75), from(-greatest, greatest), of(0.375, 0, 0x1.8p1023)}, {from(1, afterOne), from(1, afterOne), of(0x1.14a280fb5068cp-1, 0x1.aed548f090cfp-1, 0x1.8000000000001p-51)}, {from(1, afterOne), from(0.25, 0x1.0000000000001p-2), of(0x1.f01549f7deea2p-1, 0x1.faaeed4f31578p-3, 0x1.8000000000001p-52)}, {from(0, 1), from(greatest, greatest), of(-0x1.fffe62ecfab76p-2, 0x1.452fc98b34e97p-9, 0x1.014461400890ap-1)},
	} {
		checkPolar(t, c.abs, c.arg, c.want)
		if want := wantPolar(c.abs, c.arg); !alike(want, c.want) {
			t.Errorf("the library's ball of %x, %x = %x, want %x", c.abs, c.arg, want, c.want)
		}
	}
}

// TestBE2PolarNoughts: a nought is one number, however it is signed.
func TestBE2PolarNoughts(t *testing.T) {
	noughts := []float64{0, minusZero}
	for _, a := range noughts {
		for _, b := range noughts {
			checkPolar(t, from(a, b), from(1, 2), dot(0, 0))
			checkPolar(t, from(2, 2), from(a, b), dot(2, 0))
			checkPolar(t, from(a, a), from(b, b), dot(0, 0))
			checkPolar(t, from(a, 4), from(b, b), of(2, 0, 2))
			checkPolar(t, from(1, 1), from(a, 1), wantPolar(from(1, 1), from(0, 1)))
			checkPolar(t, from(1, 1), from(-1, b), wantPolar(from(1, 1), from(-1, 0)))
			checkPolar(t, from(1, 1), from(-least, b), of(1, 0, least)) // its middle is -0
		}
	}
}

func TestBE2PolarMany(t *testing.T) {
	r := numbers{193}
	planes := 0
	for range 4000 {
		abs, arg := r.lengths(), r.span(r.float())
		want := wantPolar(abs, arg)
		checkPolar(t, abs, arg, want)
		if want == plane {
			planes++
		}
	}
	if planes < 100 || planes > 2000 {
		t.Error(planes)
	}
}

// TestBE2PolarWrong: each error alone, and ahead of those that come behind it.
func TestBE2PolarWrong(t *testing.T) {
	check := func(abs, arg api.Interval, want api.Errno) {
		t.Helper()
		if got, err := bexp.Polar(abs, arg); !alike(got, api.Ball{}) || err != want {
			t.Errorf("Polar(%v, %v) = %v, %v, want %v", abs, arg, got, err, want)
		}
	}
	one := from(1, 1)
	for _, f := range nans() {
		for _, s := range []api.Interval{from(f, 1), from(1, f), from(f, f), from(f, -1), from(-inf, f), from(inf, f)} {
			check(s, one, api.ErrNaN)
			check(one, s, api.ErrNaN)
			check(s, s, api.ErrNaN)
			check(from(-1, 1), s, api.ErrNaN)
			check(s, from(2, 1), api.ErrNaN)
			check(from(0, inf), s, api.ErrNaN)
		}
	}
	for _, s := range []api.Interval{from(-least, 1), from(-1, -1), from(-inf, 1), from(-inf, inf), from(-inf, -inf), from(2, 1), from(afterOne, 1), from(least, minusZero), from(inf, 1), from(-1, -2), from(0, -inf)} {
		check(s, one, api.ErrDom)
		check(s, from(0, inf), api.ErrDom)
		check(s, from(3, 2), api.ErrDom)
	}
	for _, s := range []api.Interval{from(2, 1), from(0, -least), from(-1, -2), from(inf, 0), from(inf, -inf), from(0, -inf), from(afterOne, 1)} {
		check(one, s, api.ErrDom)
		check(from(0, inf), s, api.ErrDom)
		check(from(inf, inf), s, api.ErrDom)
	}
	for _, s := range []api.Interval{from(0, inf), from(minusZero, inf), from(1, inf), from(inf, inf)} {
		check(s, one, api.ErrInf)
		check(one, s, api.ErrInf)
		check(s, s, api.ErrInf)
	}
	for _, s := range []api.Interval{from(-inf, inf), from(-inf, 0), from(-inf, -inf), from(-1, inf)} {
		check(one, s, api.ErrInf)
		check(from(0, 0), s, api.ErrInf)
	}
}
