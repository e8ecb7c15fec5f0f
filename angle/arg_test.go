package angle_test

import (
	"math"
	"math/big"
	"slices"
	"testing"

	"cusp/angle"
	"cusp/api"
	"cusp/consts"
)

func TestAN2WrittenOut(t *testing.T) {
	pi, half, eighth := known(consts.Pi), known(consts.HalfPi), next(0.7853981633974483)
	for _, row := range []struct {
		z    complex128
		want api.Interval
	}{
		{1 + 1i, eighth}, {1 - 1i, turned(eighth)}, {-1 + 1i, next(2.356194490192345)}, {-1 - 1i, turned(next(2.356194490192345))}, {complex(most, most), eighth}, {complex(least, -least), turned(eighth)},
		{3 + 4i, next(0.9272952180016122)}, {4 + 3i, next(0.6435011087932844)}, {-3 + 4i, next(2.214297435588181)}, {-4 - 3i, turned(next(2.4980915447965084))},
		{complex(most, least), api.Interval{Lo: 0, Hi: least}}, {complex(most, -least), api.Interval{Lo: -least, Hi: 0}}, {complex(2, least), api.Interval{Lo: 0, Hi: least}}, {complex(1, least), api.Interval{Lo: 0, Hi: least}},
		{complex(0.5, least), next(least)}, {complex(3, 10*least), next(3 * least)}, {complex(-most, least), pi}, {complex(-most, -least), turned(pi)}, {complex(-1, 1e-300), pi},
		{complex(least, most), half}, {complex(-least, most), half}, {complex(least, -most), turned(half)}, {complex(-1e-300, -1), turned(half)},
		{complex(1, 0x1p-53), next(0x1p-53 - 0x1p-106)}, {complex(3, 0x1p-53), next(0x1.5555555555555p-55)}, {complex(3, 0x1p-51), next(0x1.5555555555555p-53)},
	} {
		checkArg(t, row.z, row.want)
	}
}

// TestAN2Noughts: a nought as imaginary part tells by its sign from which side, and one as real part by that whether it is 0 or pi.
func TestAN2Noughts(t *testing.T) {
	pi, half := known(consts.Pi), known(consts.HalfPi)
	for _, x := range []float64{0, least, 0x1p-1022, 0.3, 1, 5, most} {
		checkArg(t, complex(x, 0), nothing)
		checkArg(t, complex(x, minus), nothing)
		checkArg(t, complex(math.Copysign(x, -1), 0), pi)
		checkArg(t, complex(math.Copysign(x, -1), minus), turned(pi))
		if x == 0 {
			continue
		}
		for _, nought := range []float64{0, minus} {
			checkArg(t, complex(nought, x), half)
			checkArg(t, complex(nought, -x), turned(half))
		}
	}
}

func TestAN2Wrong(t *testing.T) {
	for _, row := range []struct {
		want api.Errno
		list []complex128
	}{
		{api.ErrNaN, []complex128{complex(nan, 1), complex(1, nan), complex(nan, nan), complex(nan, 0), complex(0, nan), complex(minus, nan), complex(nan, inf), complex(-inf, nan)}},
		{api.ErrInf, []complex128{complex(inf, 1), complex(1, inf), complex(-inf, 0), complex(-inf, minus), complex(0, -inf), complex(inf, 0), complex(-inf, inf), complex(inf, inf), complex(minus, inf)}},
	} {
		for _, z := range row.list {
			if s, err := angle.Arg(z); !same(s, nothing) || err != row.want {
				t.Errorf("Arg(%v) = %x, %v, want %v", z, s, err, row.want)
			}
		}
	}
}

// plane are numbers of all sizes in all quarters, with parts alike and unlike; no part is 0.
func plane() []complex128 {
	var list []complex128
	r := numbers{2}
	for range 100 {
		x := r.float(-1074, 1024)
		list = append(list, complex(x, r.float(-1074, 1024)), complex(x, x), complex(-x, x), complex(r.float(-10, 10), r.float(-10, 10)), complex(r.float(-2, 2), r.float(-60, 2)), complex(r.float(-60, 2), r.float(-2, 2)), complex(r.float(-1, 1), r.float(-1, 1)))
	}
	parts := []float64{least, 0x1p-1022, 0x1p-537, 0x1p-53, 1, 0x1p512, most}
	for _, x := range parts {
		for _, y := range parts {
			list = append(list, complex(x, y), complex(-x, y), complex(x, -y), complex(-x, -y))
		}
	}
	return list
}

// borders are numbers beside the lines where a way is left for another one: a part being twice the other, both alike, one of them small.
func borders() []complex128 {
	var list []complex128
	r := numbers{3}
	for _, times := range []float64{0.5, 1, 2, 0x1p-53, 0x1p-54, 0x1p53, 0x1p-26} {
		for range 4 {
			x := r.float(-900, 900)
			for _, y := range around(x * times) {
				list = append(list, complex(x, y), complex(-x, y))
			}
		}
	}
	return list
}

// fractions are those that come nearer to a number above 0 than all with lesser parts, as long as floats can be the parts: by its continued fraction.
func fractions(x *big.Float) [][2]float64 {
	whole, _ := x.Rat(nil)
	a, b := whole.Num(), whole.Denom()
	p, q := [2]*big.Int{big.NewInt(0), big.NewInt(1)}, [2]*big.Int{big.NewInt(1), big.NewInt(0)}
	var list [][2]float64
	for b.Sign() > 0 {
		term, left := new(big.Int).DivMod(a, b, new(big.Int))
		a, b = b, left
		for _, part := range []*[2]*big.Int{&p, &q} {
			part[0], part[1] = part[1], new(big.Int).Add(part[0], new(big.Int).Mul(term, part[1]))
		}
		if p[1].BitLen() > 53 || q[1].BitLen() > 53 {
			break
		}
		list = append(list, [2]float64{float64(p[1].Int64()), float64(q[1].Int64())})
	}
	return list
}

// near are numbers of which the angle comes as near to the float f as it can, from both sides; f is from 0 to pi.
func near(f float64) []complex128 {
	tangent := tangentOf(f)
	// Of a great or a small tangent a power of two is set apart.
	e := tangent.MantExp(nil)
	scaled := new(big.Float).SetMantExp(tangent, -e)
	var list []complex128
	for _, part := range fractions(scaled.Abs(scaled)) {
		if part[0] > 0 {
			list = append(list, complex(float64(tangent.Sign())*part[1], math.Ldexp(part[0], e)))
		}
	}
	return list[max(0, len(list)-4):]
}

// angles are floats from 0 to pi, beside which angles lie.
func angles() []float64 {
	pi, half := known(consts.Pi), known(consts.HalfPi)
	list := []float64{pi.Lo, math.Nextafter(pi.Lo, 0), half.Lo, half.Hi, 0.7853981633974483, 0.7853981633974484, 0.4636476090008061, 1.1071487177940904, 1, 2, 3, 0.1}
	r := numbers{4}
	for range 40 {
		list = append(list, math.Abs(r.float(-2, 2)), math.Abs(r.float(-60, -2)))
	}
	for e := -58; e < 0; e++ {
		list = append(list, math.Ldexp(1.1, e))
	}
	return slices.DeleteFunc(list, func(f float64) bool { return f > pi.Lo })
}

func nearFloats() []complex128 {
	var list []complex128
	for _, f := range angles() {
		list = append(list, near(f)...)
	}
	return list
}

// TestNearFloats: the numbers come very near to floats, and lie on both sides.
func TestNearFloats(t *testing.T) {
	above, below, closest := 0, 0, 0
	for _, f := range angles() {
		list := near(f)
		far := new(big.Float).Sub(angleOf(list[len(list)-1]), exact(f, prec))
		if far.Sign() > 0 {
			above++
		} else {
			below++
		}
		_, e := math.Frexp(f)
		closest = min(closest, far.MantExp(nil)-e)
	}
	if above < 40 || below < 40 || closest > -105 {
		t.Errorf("%d above, %d below, the closest to 2^%d of itself", above, below, closest)
	}
}

// above is a fraction that is above m / 2^bits, of an odd m, by hardly anything: by 1 / (2^bits q), of the greatest q below 2^bits that can be.
func above(m int64, bits uint) (float64, float64) {
	unit, size := new(big.Int).Lsh(big.NewInt(1), bits), big.NewInt(m)
	q := new(big.Int).ModInverse(size, unit) // q m is 1 more than a multiple of the unit
	q.Sub(unit, q)                           // and now 1 less
	p := new(big.Int).Mul(q, size)
	p.Rsh(p.Add(p, big.NewInt(1)), bits)
	return float64(p.Int64()), float64(q.Int64())
}

// quotients are numbers of which y / x is a small float, and hardly above one.
func quotients() []complex128 {
	list := []complex128{}
	add := func(m int64, bits uint) {
		p, q := above(m, bits)
		for _, e := range []int{-1000, -60, -56, -55, -54, -53, -52, -51, -50, -30} {
			list = append(list, complex(q, math.Ldexp(p, e)), complex(math.Ldexp(1, int(bits)), math.Ldexp(float64(m), e)))
		}
	}
	add(1<<53-20394401, 53) // 1<<53 - 1 is a product with this factor: so q, too, is nearly 1<<53, and no fraction comes nearer
	r := numbers{5}
	for i := range 60 {
		add(1<<52+int64(r.word()>>(12+i%10))|1, 52)
	}
	return list
}

// TestAN2P6: held against the tests' own way.
func TestAN2P6(t *testing.T) {
	for what, kind := range map[string]func() []complex128{"plane": plane, "borders": borders, "near floats": nearFloats, "quotients": quotients} {
		t.Run(what, func(t *testing.T) {
			t.Parallel()
			for _, z := range kind() {
				checkArg(t, z, tightest(angleOf(z)))
			}
		})
	}
}

// everywhere are numbers of every kind, without noughts.
func everywhere() []complex128 { return slices.Concat(plane(), borders(), nearFloats(), quotients()) }
