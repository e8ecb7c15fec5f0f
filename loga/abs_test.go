package loga_test

import (
	"math"
	"slices"
	"testing"

	"cusp/api"
	"cusp/loga"
)

func TestLG2AbsWrittenOut(t *testing.T) {
	for _, row := range []struct {
		z    complex128
		want api.Interval
	}{
		{3 + 4i, api.Interval{Lo: 1.6094379124341003, Hi: 1.6094379124341005}}, {1i, nothing}, {1, nothing}, {-1, nothing}, {-1i, nothing}, {2i, next(0.6931471805599453)},
		{complex(math.Copysign(0, -1), -1), nothing}, {complex(1, math.Copysign(0, -1)), nothing}, {1 + 1i, next(0x1.62e42fefa39efp-2)},
		{complex(1, least), api.Interval{Lo: 0, Hi: least}}, {complex(1e-170, 1), api.Interval{Lo: 0, Hi: least}}, {complex(1, 0x1p-536), next(1 * least)}, {complex(1, 0x1p-512), next(0x1p-1025 - least)},
		{complex(least, 0), next(-0x1.74385446d71c4p9)}, {complex(least, least), next(-0x1.740bf7c0d927dp9)}, {complex(most, most), next(0x1.63108c75a1936p9)},
		{complex(most, least), next(0x1.62e42fefa39efp9)},
	} {
		checkAbs(t, row.z, row.want)
	}
	if s, err := loga.Abs(0.6 + 0.8i); err != api.OK || s.Lo == 0 || s.Hi == 0 || math.Abs(s.Lo) > 1e-15 || math.Abs(s.Hi) > 1e-15 {
		t.Errorf("Abs(0.6+0.8i) = %x, %v", s, err)
	}
}

func TestLG2AbsWrong(t *testing.T) {
	minus := math.Copysign(0, -1)
	for _, row := range []struct {
		want api.Errno
		list []complex128
	}{
		{api.ErrNaN, []complex128{complex(nan, 1), complex(1, nan), complex(nan, nan), complex(nan, 0), complex(0, nan), complex(nan, inf), complex(-inf, nan)}},
		{api.ErrZero, []complex128{0, complex(0, minus), complex(minus, 0), complex(minus, minus)}},
		{api.ErrInf, []complex128{complex(inf, 1), complex(1, inf), complex(-inf, 0), complex(0, -inf), complex(-inf, inf), complex(minus, inf)}},
	} {
		for _, z := range row.list {
			if s, err := loga.Abs(z); !same(s, nothing) || err != row.want {
				t.Errorf("Abs(%v) = %x, %v, want %v", z, s, err, row.want)
			}
		}
	}
}

// circle are numbers with magnitudes very near to 1.
func circle() []complex128 {
	var list []complex128
	for n := 1.0; n < 60; n++ {
		sin, cos := math.Sincos(n / 40)
		y := math.Sqrt(n * 0x1p-52)
		x := 1 - n*0x1p-53
		list = append(list, complex(cos, sin), complex(x, y), complex(x, math.Nextafter(y, 0)), complex(x, math.Sqrt((1-x)*(1+x))), complex(1-n*0x1p-40, math.Sqrt(n)*0x1p-19))
	}
	return list
}

// tiny are numbers of which one part is 1, or nearly so, and the other one near 0.
func tiny() []complex128 {
	var list []complex128
	for e := -1074; e < 0; e += 9 {
		y := math.Ldexp(1.25, e)
		list = append(list, complex(1, y))
		if e > -100 || e%4 == 0 {
			list = append(list, complex(1-0x1p-53, y), complex(1+0x1p-52, y), complex(2, y), complex(0.5, y))
		}
	}
	for _, y := range []float64{0x1p-536, 0x1.6a09e667f3bccp-537, 0x1.6a09e667f3bcdp-537, 0x1p-537, 0x1p-511, 0x1.fp-511} { // about the least floats, and the least normal one
		list = append(list, complex(1, y), complex(1, math.Nextafter(y, 1)), complex(1, math.Nextafter(y, 0)))
	}
	return list
}

// plane are numbers of all sizes, with parts alike and unlike.
func plane() []complex128 {
	var list []complex128
	r := numbers{2}
	for range 100 {
		x := r.float(-1074, 1024)
		list = append(list, complex(x, r.float(-1074, 1024)), complex(x, 0), complex(x, x), complex(r.float(-10, 10), r.float(-10, 10)), complex(r.float(-60, 2), r.float(-2, 2)))
	}
	for _, x := range []float64{least, 0x1p-1022, 0x1p-537, 1, 0x1p512, most} {
		for _, y := range []float64{0, least, 0x1p-1022, 0x1p-537, 1, 0x1p512, most} {
			list = append(list, complex(x, y))
		}
	}
	return list
}

func isUnit(z complex128) bool { return z == 1 || z == -1 || z == 1i || z == -1i }

// TestLG2P6: held against the tests' own way.
func TestLG2P6(t *testing.T) {
	for what, list := range map[string][]complex128{"circle": circle(), "tiny": tiny(), "plane": plane()} {
		t.Run(what, func(t *testing.T) {
			t.Parallel()
			for _, z := range list {
				if !isUnit(z) {
					checkAbs(t, z, tightest(logOfAbs(z)))
				}
			}
		})
	}
}

func TestLG3AbsSignsAndParts(t *testing.T) {
	for _, z := range slices.Concat(circle(), tiny(), plane()) {
		want, err := loga.Abs(z)
		if err != api.OK {
			t.Errorf("Abs(%x): %v", z, err)
		}
		x, y := real(z), imag(z)
		for _, other := range []complex128{complex(-x, y), complex(x, -y), complex(-x, -y), complex(y, x), complex(-y, x), complex(y, -x), complex(-y, -x)} {
			checkAbs(t, other, want)
		}
	}
}

// TestLG2AbsOfReals: of one part alone it is Log.
func TestLG2AbsOfReals(t *testing.T) {
	for _, x := range functions()[0].list(edges, hard) {
		want, _ := loga.Log(x)
		checkAbs(t, complex(x, 0), want)
		checkAbs(t, complex(0, -x), want)
	}
}

// TestLG2AbsOfWholes: of sides of triangles with a right angle it is Log of the longest one, however scaled.
func TestLG2AbsOfWholes(t *testing.T) {
	for _, side := range [][3]float64{{3, 4, 5}, {5, 12, 13}, {8, 15, 17}, {20, 21, 29}, {119, 120, 169}} {
		for e := -1074; e < 1000; e += 61 {
			want, _ := loga.Log(math.Ldexp(side[2], e))
			checkAbs(t, complex(math.Ldexp(side[0], e), math.Ldexp(side[1], e)), want)
		}
	}
}
