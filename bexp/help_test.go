package bexp_test

import (
	"math"
	"math/big"
	"testing"

	"cusp/api"
	"cusp/bexp"
	"cusp/expo"
	"cusp/trig"
)

const (
	least    = math.SmallestNonzeroFloat64 // 2^-1074
	greatest = math.MaxFloat64
	afterOne = 0x1.0000000000001p0
	pi       = 0x1.921fb54442d18p1    // below it
	lastExp  = 0x1.62e42fefa39efp9    // the last float whose exponential is not beyond the greatest one
	firstExp = -0x1.74910d52d3051p9   // the first one whose exponential is not below the least one
	halfMost = 0x1.fffffffffffffp1022 // half of the greatest one
)

var (
	inf       = math.Inf(1)
	nan       = math.NaN()
	minusZero = math.Copysign(0, -1)
	plane     = of(0, 0, inf)
)

func of(x, y, rad float64) api.Ball { return api.Ball{Mid: complex(x, y), Rad: rad} }

func dot(x, y float64) api.Ball { return of(x, y, 0) }

func from(lo, hi float64) api.Interval { return api.Interval{Lo: lo, Hi: hi} }

// nans are quiet and signalling ones, of both signs.
func nans() []float64 {
	return []float64{nan, math.Float64frombits(0xFFF0000000000001), math.Float64frombits(0x7FF0000000000001), math.Float64frombits(0xFFFFFFFFFFFFFFFF)}
}

// anyFloats are floats where rules change, with both signs, and NaNs.
func anyFloats() []float64 {
	out := append(nans(), 0, minusZero)
	for _, f := range []float64{least, 0x1p-1022, 0.1, 1, 3, 0.5 * pi, pi, lastExp, math.Nextafter(lastExp, inf), -firstExp, 800, 0x1p512, greatest, inf} {
		out = append(out, f, -f)
	}
	return out
}

// wrongBalls are balls that may not be, each for one reason, and for several.
func wrongBalls() []api.Ball {
	out := []api.Ball{
		of(0, 0, -1), of(1, 2, -least), of(0, 0, minusZero), of(1, 1, minusZero), of(0, 0, -inf), of(5, 0, -greatest),
		of(inf, 0, 1), of(0, -inf, 1), of(-inf, inf, 0), of(inf, 0, inf), of(-inf, 0, 0), of(inf, nan, -1),
		of(1, 0, inf), of(0, 1, inf), of(minusZero, 0, inf), of(0, minusZero, inf), // the plane's Mid is 0+0i
	}
	for _, f := range nans() {
		out = append(out, of(f, 0, 1), of(0, f, 0), of(0, 0, f), of(f, f, f), of(0, f, inf), of(800, f, 800))
	}
	return out
}

// numbers makes floats and balls by a rule.
type numbers struct{ seed uint64 }

func (r *numbers) word() uint64 {
	r.seed = r.seed*6364136223846793005 + 1442695040888963407
	return r.seed>>32 ^ r.seed<<32
}

func (r *numbers) below(n int) int { return int(r.word() >> 1 % uint64(n)) }

// float is finite: most often near 1, or of few binary digits; seldom of any bits, about the least and the greatest one, or a nought.
func (r *numbers) float() float64 {
	sign := float64(1 - r.below(2)*2)
	m := math.Ldexp(float64(1<<52|r.word()>>12), -52)
	switch r.below(16) {
	case 0, 1:
		return sign * math.Ldexp(m, r.below(2098)-1074)
	case 2:
		return sign * float64(r.word()>>(12+r.below(52))) * least
	case 3:
		return sign * math.Ldexp(m, 1023-r.below(6))
	case 4:
		return sign * 0
	case 5, 6, 7:
		return sign * math.Ldexp(float64(r.below(64)), r.below(12)-6)
	}
	return sign * math.Ldexp(m, r.below(60)-30)
}

// power is most often one whose exponential is neither beyond the floats nor below them, but sometimes hardly so.
func (r *numbers) power() float64 {
	size := math.Ldexp(float64(r.word()>>11), -53)
	switch r.below(6) {
	case 0:
		return r.float()
	case 1:
		return lastExp - size*float64(1+r.below(4))
	case 2:
		return firstExp + size*float64(1+r.below(40))
	case 3:
		return size*1454 - 745
	}
	return size*20 - 10
}

// radius is often one by which an exponential grows little, or so that it is hardly a float any more.
func (r *numbers) radius(x float64) float64 {
	switch r.below(6) {
	case 0, 1:
		return 0
	case 2:
		return math.Abs(r.float())
	case 3:
		return max(0, lastExp-x-math.Ldexp(float64(r.below(64)-16), -4))
	}
	return math.Ldexp(float64(r.below(1<<20)), r.below(20)-36)
}

// ball may be; seldom it is the plane.
func (r *numbers) ball() api.Ball {
	x, y := r.power(), r.float()
	switch r.below(40) {
	case 0:
		return plane
	case 1, 2, 3:
		y = math.Copysign(0, y)
	case 4, 5, 6:
		y = float64(r.below(9)-4) * 0.5 * pi
	}
	return of(x, y, min(greatest, r.radius(x)))
}

// span is an interval with two finite ends.
func (r *numbers) span(f float64) api.Interval {
	switch r.below(4) {
	case 0:
		return from(f, f)
	case 1:
		return from(f, math.Nextafter(f, greatest))
	case 2:
		g := r.float()
		return from(min(f, g), max(f, g))
	}
	more := min(f+math.Ldexp(float64(r.below(64)), r.below(9)-8), greatest)
	return from(min(f, more), max(f, more))
}

// lengths are an interval of magnitudes.
func (r *numbers) lengths() api.Interval {
	s := r.span(math.Abs(r.float()))
	return from(math.Abs(min(math.Abs(s.Lo), math.Abs(s.Hi))), max(math.Abs(s.Lo), math.Abs(s.Hi)))
}

// same tells whether two floats are alike as the document compares answers.
func same(a, b float64) bool {
	return math.Float64bits(a) == math.Float64bits(b) || a != a && b != b
}

func alike(a, b api.Ball) bool {
	return same(real(a.Mid), real(b.Mid)) && same(imag(a.Mid), imag(b.Mid)) && same(a.Rad, b.Rad)
}

// conjugateBall is b on the other side of the real axis; the plane's middle is 0+0i.
func conjugateBall(b api.Ball) api.Ball {
	if b == plane {
		return plane
	}
	return of(real(b.Mid), -imag(b.Mid), b.Rad)
}

func checkExp(t *testing.T, b, want api.Ball) {
	t.Helper()
	if got, err := bexp.Exp(b); !alike(got, want) || err != api.OK {
		t.Errorf("Exp(%x) = %x, %v, want %x", b, got, err, want)
	}
}

func checkCis(t *testing.T, x float64, want api.Ball) {
	t.Helper()
	if got, err := bexp.Cis(x); !alike(got, want) || err != api.OK {
		t.Errorf("Cis(%x) = %x, %v, want %x", x, got, err, want)
	}
}

func checkPolar(t *testing.T, abs, arg api.Interval, want api.Ball) {
	t.Helper()
	if got, err := bexp.Polar(abs, arg); !alike(got, want) || err != api.OK {
		t.Errorf("Polar(%x, %x) = %x, %v, want %x", abs, arg, got, err, want)
	}
}

// What follows reckons with the library: its long floats, that have digits enough to hold exactly what comes of two products of floats.

const prec = 4400

func exact(f float64) *big.Float { return new(big.Float).SetPrec(prec).SetFloat64(f) }

func added(a, b *big.Float) *big.Float { return new(big.Float).Add(a, b) }

func taken(a, b *big.Float) *big.Float { return new(big.Float).Sub(a, b) }

func multiplied(a, b *big.Float) *big.Float { return new(big.Float).Mul(a, b) }

func nearest(x *big.Float) float64 {
	f, _ := x.Float64()
	return f
}

func upper(x *big.Float) float64 {
	f, off := x.Float64()
	if off == big.Below {
		f = math.Nextafter(f, inf)
	}
	return f
}

func lower(x *big.Float) float64 { return -upper(new(big.Float).Neg(x)) }

// wantMul is the least interval of the products, of magnitudes with numbers.
func wantMul(abs, s api.Interval) api.Interval {
	out := from(inf, -inf)
	for _, a := range []float64{abs.Lo, abs.Hi} {
		for _, b := range []float64{s.Lo, s.Hi} {
			product := multiplied(exact(a), exact(b))
			out = from(min(out.Lo, lower(product)), max(out.Hi, upper(product)))
		}
	}
	return from(out.Lo+0, out.Hi+0) // -0 + 0 is +0
}

// wantMiddle is the middle of an interval and its half.
func wantMiddle(s api.Interval) (float64, *big.Float) {
	sum := added(exact(s.Lo), exact(s.Hi))
	mid := nearest(sum.SetMantExp(sum, -1))
	above, below := taken(exact(s.Hi), exact(mid)), taken(exact(mid), exact(s.Lo))
	if above.Cmp(below) < 0 {
		above = below
	}
	return mid, above
}

// wantCircle is the ball of what has these magnitudes and this argument, or is at most far away from it.
func wantCircle(abs api.Interval, arg float64, far *big.Float) api.Ball {
	cosine, _ := trig.Cos(arg)
	sine, _ := trig.Sin(arg)
	x, halfX := wantMiddle(wantMul(abs, cosine))
	y, halfY := wantMiddle(wantMul(abs, sine))
	rad := upper(added(added(halfX, halfY), far))
	if rad == inf {
		return plane
	}
	return of(x, y, rad)
}

// wantExp is BE1's.
func wantExp(b api.Ball) api.Ball {
	abs, _ := expo.Exp(real(b.Mid))
	grown, _ := expo.Expm1(min(b.Rad, greatest)) // of the plane
	if abs.Hi == inf || grown.Hi == inf {
		return plane
	}
	out := wantCircle(abs, imag(b.Mid), multiplied(exact(abs.Hi), exact(grown.Hi)))
	if imag(b.Mid) == 0 && out != plane {
		out.Mid = complex(real(out.Mid), imag(b.Mid))
	}
	return out
}

// wantPolar is BE2's.
func wantPolar(abs, arg api.Interval) api.Ball {
	a, half := wantMiddle(arg)
	return wantCircle(abs, a, multiplied(exact(abs.Hi), half))
}

// TestHelpers: the tests' reckoning, where it is known.
func TestHelpers(t *testing.T) {
	if f := upper(exact(1)); f != 1 {
		t.Error(f)
	}
	if lo, hi := lower(added(exact(1), exact(least))), upper(added(exact(1), exact(least))); lo != 1 || hi != afterOne {
		t.Error(lo, hi)
	}
	if hi := upper(multiplied(exact(greatest), exact(greatest))); hi != inf {
		t.Error(hi)
	}
	if s := wantMul(from(1, 3), from(-2, 1)); s != from(-6, 3) {
		t.Error(s)
	}
	if s := wantMul(from(0, least), from(-0.5, -0.25)); s != from(-least, 0) || math.Signbit(s.Hi) {
		t.Error(s)
	}
	for _, c := range []struct {
		s    api.Interval
		mid  float64
		half float64
	}{{from(1, 3), 2, 1}, {from(0, least), 0, least}, {from(-least, 0), minusZero, least}, {from(1, afterOne), 1, 0x1p-52}, {from(-afterOne, -1), -1, 0x1p-52}, {from(0, 0), 0, 0}, {from(0, greatest), halfMost, halfMost}} {
		if mid, half := wantMiddle(c.s); !same(mid, c.mid) || half.Cmp(exact(c.half)) != 0 {
			t.Errorf("%x: %x, %v", c.s, mid, half)
		}
	}
}
