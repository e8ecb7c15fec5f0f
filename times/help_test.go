package times_test

import (
	"math"
	"math/big"
	"testing"

	"cusp/api"
)

const (
	least     = math.SmallestNonzeroFloat64 // 2^-1074
	greatest  = math.MaxFloat64
	afterOne  = 0x1.0000000000001p0
	beforeOne = 0x1.fffffffffffffp-1
)

var (
	inf       = math.Inf(1)
	nan       = math.NaN()
	minusZero = math.Copysign(0, -1)
	plane     = of(0, 0, inf)
)

func of(x, y, rad float64) api.Ball { return api.Ball{Mid: complex(x, y), Rad: rad} }

func dot(x, y float64) api.Ball { return of(x, y, 0) }

// anyFloats are floats where rules change, with both signs, and NaNs: quiet and signalling ones.
func anyFloats() []float64 {
	out := []float64{0, minusZero}
	for _, f := range []float64{least, 0x1p-537, 0.1, 1, 3, 0x1p512, greatest, inf} {
		out = append(out, f, -f)
	}
	for _, b := range []uint64{0x7FF8000000000001, 0x7FF0000000000001, 0xFFF8000000000000, 0xFFF0000000000001} {
		out = append(out, math.Float64frombits(b))
	}
	return out
}

// wrongBalls are balls that may not be, each for one reason, and for several.
func wrongBalls() []api.Ball {
	return []api.Ball{
		of(0, 0, -1), of(1, 2, -least), of(0, 0, minusZero), of(1, 1, minusZero), of(0, 0, -inf),
		of(inf, 0, 1), of(0, -inf, 1), of(inf, 0, inf), of(nan, 0, 1), of(0, nan, 0), of(0, 0, nan), of(nan, nan, nan), of(inf, nan, -1),
		of(1, 0, inf), of(0, 1, inf), of(minusZero, 0, inf), of(0, minusZero, inf), // the plane's Mid is 0+0i
	}
}

// corners are balls where rules change, the plane among them.
func corners() []api.Ball {
	out := []api.Ball{plane}
	for _, z := range []complex128{
		0, complex(minusZero, 0), complex(0, minusZero), complex(minusZero, minusZero), 1, complex(-1, minusZero), 1i, 3 - 4i, complex(afterOne, -0.1),
		complex(least, -least), complex(0x1p-537, 0x1p-538), complex(greatest, -greatest), complex(-0x1p512, minusZero), complex(1e300, least),
	} {
		for _, rad := range []float64{0, least, 0x1p-538, 0.1, 1, 0x1p511, greatest} {
			out = append(out, api.Ball{Mid: z, Rad: rad})
		}
	}
	return out
}

// numbers makes floats and balls by a rule.
type numbers struct{ seed uint64 }

func (r *numbers) word() uint64 {
	r.seed = r.seed*6364136223846793005 + 1442695040888963407
	return r.seed>>32 ^ r.seed<<32
}

func (r *numbers) below(n int) int { return int(r.word() >> 1 % uint64(n)) }

// float is finite: most often near 1, or of few binary digits; seldom of any bits, below the least normal one, about the roots of the least and the greatest one, or a nought.
func (r *numbers) float() float64 {
	sign := float64(1 - r.below(2)*2)
	m := math.Ldexp(float64(1<<52|r.word()>>12), -52)
	switch r.below(14) {
	case 0:
		return sign * math.Ldexp(m, r.below(2098)-1074)
	case 1:
		return sign * float64(r.word()>>(12+r.below(52))) * least
	case 2:
		return sign * math.Ldexp(m, 505+r.below(10))
	case 3:
		return sign * math.Ldexp(m, -530-r.below(12))
	case 4:
		return sign * 0
	case 5, 6, 7:
		return sign * math.Ldexp(float64(r.below(64)), r.below(12)-6)
	}
	return sign * math.Ldexp(m, r.below(60)-30)
}

func (r *numbers) value() complex128 { return complex(r.float(), r.float()) }

// ball may be: most often with a radius that counts beside what a product of its middle loses; seldom the plane.
func (r *numbers) ball() api.Ball {
	b := api.Ball{Mid: r.value(), Rad: math.Abs(r.float())}
	switch r.below(9) {
	case 0, 1:
		b.Rad = 0
	case 2, 3:
		b.Rad = math.Abs(math.Ldexp(real(b.Mid), -40-r.below(30)))
	case 4:
		if r.below(10) == 0 {
			return plane
		}
	}
	return b
}

// modest has parts and a radius so near to 1 that many of it can be multiplied.
func (r *numbers) modest() api.Ball {
	part := func() float64 { return math.Ldexp(float64(r.below(1<<20)-1<<19), -18-r.below(3)) }
	b := of(part(), part(), math.Abs(math.Ldexp(part(), -r.below(40))))
	if r.below(5) == 0 {
		b.Rad = 0
	}
	return b
}

func (r *numbers) modestList(n int) []api.Ball {
	out := make([]api.Ball, n)
	for i := range out {
		out[i] = r.modest()
	}
	return out
}

// pair are two balls; often a part of their middles' product nearly goes away.
func (r *numbers) pair() (api.Ball, api.Ball) {
	a, b := r.ball(), r.ball()
	if a == plane || b == plane {
		return a, b
	}
	switch x, y := real(a.Mid), imag(a.Mid); r.below(6) {
	case 0:
		b.Mid = complex(math.Nextafter(y, 1), x)
	case 1:
		b.Mid = complex(x, -math.Nextafter(y, 1))
	case 2:
		b.Mid = complex(y, x)
	}
	return a, b
}

// same tells whether two floats are alike as the document compares answers.
func same(a, b float64) bool {
	return math.Float64bits(a) == math.Float64bits(b) || a != a && b != b
}

func alike(a, b api.Ball) bool {
	return same(real(a.Mid), real(b.Mid)) && same(imag(a.Mid), imag(b.Mid)) && same(a.Rad, b.Rad)
}

// equal tells whether two balls are, but for noughts.
func equal(a, b api.Ball) bool { return a.Mid == b.Mid && a.Rad == b.Rad }

func check(t *testing.T, got api.Ball, err api.Errno, want api.Ball, what string, of ...any) {
	t.Helper()
	if !alike(got, want) || err != api.OK {
		t.Errorf("%s(%.200v) = %v, %v, want %v", what, of, got, err, want)
	}
}

func checkErr(t *testing.T, got api.Ball, err, want api.Errno, what string, of ...any) {
	t.Helper()
	if !alike(got, api.Ball{}) || err != want {
		t.Errorf("%s(%.200v) = %v, %v, want the error %v", what, of, got, err, want)
	}
}

// What follows reckons with the library: numbers as whole ones of 2^-2148, of which products of two floats are made.

const place = 2148

func whole(f float64) *big.Int {
	frac, exp := math.Frexp(f)
	n := big.NewInt(int64(frac * (1 << 53)))
	return n.Lsh(n, uint(exp-53+place))
}

func added(a, b *big.Int) *big.Int { return new(big.Int).Add(a, b) }

func taken(a, b *big.Int) *big.Int { return new(big.Int).Sub(a, b) }

func square(a *big.Int) *big.Int { return new(big.Int).Mul(a, a) }

// multiplied is the product of two floats.
func multiplied(a, b float64) *big.Int {
	n := new(big.Int).Mul(whole(a), whole(b))
	return n.Rsh(n, place) // what is cut off are noughts
}

// apart is how far a float is from a number.
func apart(f float64, n *big.Int) *big.Int {
	rest := taken(whole(f), n)
	return rest.Abs(rest)
}

// nearest is the exact sum of two products, rounded by the library to the nearest; what comes to 0 is -0 just if both products are.
func nearest(sum *big.Int, a, b float64) float64 {
	if sum.Sign() == 0 {
		return math.Copysign(0, math.Copysign(1, a)+math.Copysign(1, b)+1) // the sum of two minus signs alone is below -1
	}
	n := new(big.Float).SetInt(sum)
	f, _ := n.SetMantExp(n, -place).Float64()
	return f
}

// A far is how far something reaches: a number, and the roots of two numbers that are counted in parts as fine as squares.
type far struct{ known, p, q *big.Int }

// within tells whether a float is not below it: exactly, by squaring twice.
func (s far) within(f float64) bool {
	d := taken(whole(f), s.known)
	rest := taken(taken(square(d), s.p), s.q)
	if d.Sign() < 0 || rest.Sign() < 0 {
		return false
	}
	both := new(big.Int).Mul(s.p, s.q)
	return square(rest).Cmp(both.Lsh(both, 2)) >= 0
}

// up is the least float that is not below it: the library's guess, and its neighbours.
func (s far) up() float64 {
	const digits = 12000
	sum := new(big.Float).SetPrec(digits).SetInt(s.known)
	for _, square := range []*big.Int{s.p, s.q} {
		root := new(big.Float).SetPrec(digits).SetInt(new(big.Int).Sqrt(square))
		sum.Add(sum, root)
	}
	f, _ := sum.SetMantExp(sum, -place).Float64()
	f = min(f, greatest)
	for f > 0 && s.within(math.Nextafter(f, 0)) {
		f = math.Nextafter(f, 0)
	}
	for f < inf && !s.within(f) {
		f = math.Nextafter(f, inf)
	}
	return f
}

// lost are the parts of the exact product of two values, and what a middle is away from both.
func lost(mid, z, w complex128) *big.Int {
	re := taken(multiplied(real(z), real(w)), multiplied(imag(z), imag(w)))
	im := added(multiplied(real(z), imag(w)), multiplied(imag(z), real(w)))
	return added(apart(real(mid), re), apart(imag(mid), im))
}

// wantMid is arith's product to the nearest.
func wantMid(z, w complex128) complex128 {
	x, y, u, v := real(z), imag(z), real(w), imag(w)
	re := nearest(taken(multiplied(x, u), multiplied(y, v)), x*u, -(y * v))
	im := nearest(added(multiplied(x, v), multiplied(y, u)), x*v, y*u)
	return complex(re, im)
}

func infinite(f float64) bool { return math.IsInf(f, 0) }

// around is the ball of a middle and a radius, or the plane.
func around(mid complex128, rad float64) api.Ball {
	if infinite(real(mid)) || infinite(imag(mid)) || infinite(rad) {
		return plane
	}
	return api.Ball{Mid: mid, Rad: rad}
}

// norm is the square of a magnitude times the square of a float, in parts as fine as squares.
func norm(z complex128, f float64) *big.Int {
	return added(square(multiplied(real(z), f)), square(multiplied(imag(z), f)))
}

// wantMul is TI1's.
func wantMul(a, b api.Ball) api.Ball {
	if a == plane || b == plane {
		return plane
	}
	mid := wantMid(a.Mid, b.Mid)
	if infinite(real(mid)) || infinite(imag(mid)) {
		return plane
	}
	known := added(lost(mid, a.Mid, b.Mid), multiplied(a.Rad, b.Rad))
	return around(mid, far{known, norm(a.Mid, b.Rad), norm(b.Mid, a.Rad)}.up())
}

// wantSqr is TI2's.
func wantSqr(b api.Ball) api.Ball {
	if b == plane {
		return plane
	}
	mid := wantMid(b.Mid, b.Mid)
	if infinite(real(mid)) || infinite(imag(mid)) {
		return plane
	}
	twice := norm(b.Mid, b.Rad)
	return around(mid, far{added(lost(mid, b.Mid, b.Mid), multiplied(b.Rad, b.Rad)), twice.Lsh(twice, 2), new(big.Int)}.up())
}

// TestHelpers: the library's ways at numbers that are known, and the balls made by a rule are of many kinds.
func TestHelpers(t *testing.T) {
	none, one := new(big.Int), whole(1)
	half := new(big.Int).Rsh(whole(least), 1)
	for _, c := range []struct {
		s    far
		want float64
	}{
		{far{none, none, none}, 0}, {far{one, none, none}, 1}, {far{half, none, none}, least}, {far{added(one, half), none, none}, afterOne}, {far{none, square(one), none}, 1}, {far{none, square(whole(3)), square(whole(4))}, 7}, {far{one, added(square(one), big.NewInt(1)), none}, 2 + 0x1p-51},
		{far{none, added(square(one), square(one)), none}, 0x1.6a09e667f3bcdp0}, {far{one, taken(square(one), big.NewInt(1)), none}, 2}, {far{whole(greatest), none, none}, greatest}, {far{whole(greatest), big.NewInt(1), none}, inf}, {far{none, big.NewInt(1), big.NewInt(2)}, least},
	} {
		if got := c.s.up(); got != c.want {
			t.Errorf("%v rounded up = %v, want %v", c.s, got, c.want)
		}
	}
	for _, c := range [][3]float64{{0, 0, 0}, {0, minusZero, 0}, {minusZero, 0, 0}, {minusZero, minusZero, minusZero}, {2, -2, 0}, {-2, 2, 0}} {
		if got := nearest(none, c[0], c[1]); !same(got, c[2]) {
			t.Errorf("0 of %v and %v = %v", c[0], c[1], got)
		}
	}
	r := numbers{150}
	inexact, planes, over := 0, 0, 0
	for range 1000 {
		a, b := r.pair()
		switch got := wantMul(a, b); {
		case a == plane || b == plane:
			planes++
		case got == plane:
			over++
		case lost(got.Mid, a.Mid, b.Mid).Sign() > 0:
			inexact++
		}
	}
	if inexact < 400 || planes == 0 || planes > 100 || over < 20 || over > 300 {
		t.Error(inexact, planes, over)
	}
}
