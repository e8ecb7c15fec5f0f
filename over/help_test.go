package over_test

import (
	"math"
	"math/big"
	"testing"

	"cusp/api"
	"cusp/ball"
)

const (
	least      = math.SmallestNonzeroFloat64 // 2^-1074
	greatest   = math.MaxFloat64
	beforeMost = 0x1.ffffffffffffep1023
	afterOne   = 0x1.0000000000001p0
	beforeOne  = 0x1.fffffffffffffp-1
)

var (
	inf       = math.Inf(1)
	nan       = math.NaN()
	minusZero = math.Copysign(0, -1)
	plane     = of(0, 0, inf)
)

func of(x, y, rad float64) api.Ball { return api.Ball{Mid: complex(x, y), Rad: rad} }

func dot(x, y float64) api.Ball { return of(x, y, 0) }

// nans are quiet and signalling ones, of both signs.
func nans() []float64 {
	return []float64{nan, math.Float64frombits(0xFFF0000000000001), math.Float64frombits(0x7FF0000000000001), math.Float64frombits(0xFFFFFFFFFFFFFFFF)}
}

// anyFloats are floats where rules change, with both signs, and NaNs.
func anyFloats() []float64 {
	out := append(nans(), 0, minusZero)
	for _, f := range []float64{least, 0x1p-1024, 0x1p-537, 0.1, 1, 3, 0x1p512, greatest, inf} {
		out = append(out, f, -f)
	}
	return out
}

// wrongBalls are balls that may not be, each for one reason, and for several.
func wrongBalls() []api.Ball {
	out := []api.Ball{
		of(0, 0, -1), of(1, 2, -least), of(0, 0, minusZero), of(1, 1, minusZero), of(0, 0, -inf), of(5, 0, -greatest),
		of(inf, 0, 1), of(0, -inf, 1), of(-inf, inf, 0), of(inf, 0, inf), of(inf, nan, -1),
		of(1, 0, inf), of(0, 1, inf), of(minusZero, 0, inf), of(0, minusZero, inf), // the plane's Mid is 0+0i
	}
	for _, f := range nans() {
		out = append(out, of(f, 0, 1), of(0, f, 0), of(0, 0, f), of(f, f, f), of(0, f, inf))
	}
	return out
}

// corners are balls where rules change, the plane among them.
func corners() []api.Ball {
	out := []api.Ball{plane}
	for _, z := range []complex128{
		0, complex(minusZero, 0), complex(0, minusZero), complex(minusZero, minusZero), 1, complex(-1, minusZero), 1i, complex(minusZero, -1), 3 - 4i, complex(afterOne, -0.1), complex(1, least),
		complex(least, -least), complex(0x1p-1024, 0), complex(0x1.0000000000004p-1024, 0), complex(0, -0x1p-1023), complex(0x1p-537, 0x1p-538), complex(greatest, -greatest), complex(-0x1p512, minusZero), complex(1e300, least), complex(-least, greatest),
	} {
		for _, rad := range []float64{0, least, 0x1p-1025, 0x1p-538, 0.1, beforeOne, 1, 0x1p511, beforeMost, greatest} {
			out = append(out, api.Ball{Mid: z, Rad: rad})
		}
	}
	return out
}

// numbers makes floats and balls by a rule.
type numbers struct{ seed uint64 }

func (r *numbers) word() uint64 {
	r.seed = r.seed*6364136223846793005 + 1442695040888963407
	return r.seed>>32 ^ r.seed<<32
}

func (r *numbers) below(n int) int { return int(r.word() >> 1 % uint64(n)) }

// float is finite: most often near 1, or of few binary digits; seldom of any bits, about the least and the greatest one, and where inverses are such, or a nought.
func (r *numbers) float() float64 {
	sign := float64(1 - r.below(2)*2)
	m := math.Ldexp(float64(1<<52|r.word()>>12), -52)
	switch r.below(16) {
	case 0:
		return sign * math.Ldexp(m, r.below(2098)-1074)
	case 1:
		return sign * float64(r.word()>>(12+r.below(52))) * least
	case 2:
		return sign * math.Ldexp(m, -1020-r.below(8))
	case 3:
		return sign * math.Ldexp(m, 1023-r.below(6))
	case 4:
		return sign * 0
	case 5, 6, 7:
		return sign * math.Ldexp(float64(r.below(64)), r.below(12)-6)
	}
	return sign * math.Ldexp(m, r.below(60)-30)
}

func (r *numbers) value() complex128 {
	z := complex(r.float(), r.float())
	if r.below(3) == 0 { // both parts of one size
		z = complex(real(z), real(z)*(float64(r.below(256))/128-1))
	}
	return z
}

// size is the magnitude of a value, or nearly so.
func size(z complex128) float64 { return min(math.Hypot(real(z), imag(z)), greatest) }

// ball may be: most often without 0, often hardly so; seldom the plane.
func (r *numbers) ball() api.Ball {
	b := api.Ball{Mid: r.value()}
	switch r.below(10) {
	case 0, 1:
	case 2, 3:
		b.Rad = size(b.Mid) * (float64(r.below(64)) / 64)
	case 4:
		b.Rad = math.Ldexp(size(b.Mid), -30-r.below(40))
	case 5, 6:
		b.Rad = size(b.Mid) * (1 - math.Ldexp(1, -r.below(54)))
	case 7:
		rad := math.Float64bits(size(b.Mid))
		b.Rad = math.Float64frombits(max(rad, 8) - uint64(r.below(8)))
	case 8:
		b.Rad = math.Abs(r.float())
	default:
		if r.below(8) == 0 {
			return plane
		}
	}
	return b
}

// modest has parts and a radius so near to 1 that no part of what comes of it is infinite, or lost.
func (r *numbers) modest() api.Ball {
	part := func() float64 { return math.Ldexp(float64(r.below(1<<20)-1<<19), -18-r.below(3)) }
	b := of(part(), part(), math.Abs(math.Ldexp(part(), -r.below(40))))
	if r.below(5) == 0 {
		b.Rad = 0
	}
	return b
}

// same tells whether two floats are alike as the document compares answers.
func same(a, b float64) bool {
	return math.Float64bits(a) == math.Float64bits(b) || a != a && b != b
}

func alike(a, b api.Ball) bool {
	return same(real(a.Mid), real(b.Mid)) && same(imag(a.Mid), imag(b.Mid)) && same(a.Rad, b.Rad)
}

// equal tells whether two balls are, but for noughts.
func equal(a, b api.Ball) bool { return a.Mid == b.Mid && a.Rad == b.Rad }

func check(t *testing.T, got api.Ball, err api.Errno, want api.Ball, what string, of ...any) {
	t.Helper()
	if !alike(got, want) || err != api.OK {
		t.Errorf("%s(%.200v) = %v, %v, want %v", what, of, got, err, want)
	}
}

func checkErr(t *testing.T, got api.Ball, err, want api.Errno, what string, of ...any) {
	t.Helper()
	if !alike(got, api.Ball{}) || err != want {
		t.Errorf("%s(%.200v) = %v, %v, want the error %v", what, of, got, err, want)
	}
}

// What follows reckons with the library's fractions.

func fraction(f float64) *big.Rat { return new(big.Rat).SetFloat64(f) }

func added(a, b *big.Rat) *big.Rat { return new(big.Rat).Add(a, b) }

func taken(a, b *big.Rat) *big.Rat { return new(big.Rat).Sub(a, b) }

func multiplied(a, b *big.Rat) *big.Rat { return new(big.Rat).Mul(a, b) }

func divided(a, b *big.Rat) *big.Rat { return new(big.Rat).Quo(a, b) }

func square(f float64) *big.Rat { return multiplied(fraction(f), fraction(f)) }

// upper is a fraction that is not below 0, rounded up.
func upper(q *big.Rat) float64 {
	f, _ := q.Float64() // to the nearest
	if f < inf && fraction(f).Cmp(q) < 0 {
		return math.Nextafter(f, inf)
	}
	return f
}

// apart is how far a float is from a fraction.
func apart(f float64, q *big.Rat) *big.Rat {
	rest := taken(fraction(f), q)
	return rest.Abs(rest)
}

// room is by how much a ball's squared magnitude of the middle is more than the square of its radius.
func room(b api.Ball) *big.Rat {
	return taken(added(square(real(b.Mid)), square(imag(b.Mid))), square(b.Rad))
}

// wantZero is OV1's.
func wantZero(b api.Ball) bool { return b == plane || room(b).Sign() <= 0 }

func infinite(f float64) bool { return math.IsInf(f, 0) }

// wantInv is OV2's: the true disc, and what the middle is away from its.
func wantInv(b api.Ball) api.Ball {
	if wantZero(b) {
		return plane
	}
	d := room(b)
	x, y := divided(fraction(real(b.Mid)), d), divided(fraction(-imag(b.Mid)), d)
	u, _ := x.Float64()
	v, _ := y.Float64()
	if infinite(u) || infinite(v) {
		return plane
	}
	rad := upper(added(divided(fraction(b.Rad), d), added(apart(u, x), apart(v, y))))
	if infinite(rad) {
		return plane
	}
	return of(math.Copysign(u, real(b.Mid)), math.Copysign(v, -imag(b.Mid)), rad)
}

// TestHelpers: the library's ways at numbers that are known, and the balls made by a rule are of many kinds.
func TestHelpers(t *testing.T) {
	half := big.NewRat(1, 2)
	for _, c := range []struct {
		q    *big.Rat
		want float64
	}{
		{new(big.Rat), 0}, {fraction(1), 1}, {multiplied(fraction(least), half), least}, {multiplied(fraction(least), fraction(least)), least}, {added(fraction(1), square(least)), afterOne}, {big.NewRat(1, 3), 0x1.5555555555556p-2}, {big.NewRat(2, 3), 0x1.5555555555556p-1}, {fraction(greatest), greatest}, {added(fraction(greatest), square(least)), inf}, {square(greatest), inf},
	} {
		if got := upper(c.q); !same(got, c.want) {
			t.Errorf("%v rounded up = %v, want %v", c.q, got, c.want)
		}
	}
	r := numbers{170}
	kinds := map[string]int{}
	for range 3000 {
		b := r.ball()
		if !ball.Valid(b) {
			t.Error(b, "may not be")
		}
		switch got := wantInv(b); {
		case b == plane:
			kinds["plane"]++
		case wantZero(b):
			kinds["nought"]++
		case got == plane:
			kinds["beyond"]++
		case got.Rad > 0 && b.Rad == 0:
			kinds["lost"]++
		case got.Rad > 0:
			kinds["disc"]++
		}
	}
	for kind, n := range map[string]int{"plane": 10, "nought": 100, "beyond": 20, "lost": 200, "disc": 500} {
		if kinds[kind] < n {
			t.Error(kinds)
		}
	}
}
