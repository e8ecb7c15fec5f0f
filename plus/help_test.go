package plus_test

import (
	"math"
	"math/big"
	"testing"

	"cusp/api"
)

const (
	least     = math.SmallestNonzeroFloat64 // 2^-1074
	greatest  = math.MaxFloat64
	afterOne  = 0x1.0000000000001p0
	beforeOne = 0x1.fffffffffffffp-1
)

var (
	inf       = math.Inf(1)
	nan       = math.NaN()
	minusZero = math.Copysign(0, -1)
	plane     = of(0, 0, inf)
)

func of(x, y, rad float64) api.Ball { return api.Ball{Mid: complex(x, y), Rad: rad} }

func dot(x, y float64) api.Ball { return of(x, y, 0) }

// nans are quiet and signalling ones, of both signs.
func nans() []float64 {
	return []float64{nan, math.Float64frombits(0xFFF0000000000001), math.Float64frombits(0x7FF0000000000001), math.Float64frombits(0xFFFFFFFFFFFFFFFF)}
}

// anyFloats are floats where rules change, with both signs, and NaNs.
func anyFloats() []float64 {
	out := nans()
	for _, f := range []float64{least, 0x1p-1022, 0.1, 1, 3, 0x1p1023, greatest, inf} {
		out = append(out, f, -f)
	}
	return append(out, 0, minusZero)
}

// wrongBalls are balls that may not be, each for one reason, and for several.
func wrongBalls() []api.Ball {
	out := []api.Ball{
		of(0, 0, -1), of(1, 2, -least), of(0, 0, minusZero), of(1, 1, minusZero), of(0, 0, -inf), of(0, 0, -greatest),
		of(inf, 0, 1), of(0, -inf, 1), of(-inf, inf, 0), of(inf, 0, inf), of(0, inf, inf), of(inf, nan, 1), of(nan, 0, -1),
		of(1, 0, inf), of(0, 1, inf), of(greatest, greatest, inf), of(minusZero, 0, inf), of(0, minusZero, inf), of(minusZero, minusZero, inf), // the plane's Mid is 0+0i
	}
	for _, f := range nans() {
		out = append(out, of(f, 0, 1), of(0, f, 1), of(0, 0, f), of(f, f, f), of(0, f, inf))
	}
	return out
}

// corners are balls where rules change, the plane among them.
func corners() []api.Ball {
	out := []api.Ball{plane}
	for _, z := range []complex128{
		0, complex(minusZero, 0), complex(0, minusZero), complex(minusZero, minusZero), 1, -1, 1i, 3 - 4i, complex(0.1, -0.2), complex(afterOne, minusZero),
		complex(least, 0), complex(-least, least), complex(0x1p-1022, -3*least), complex(greatest, greatest), complex(-greatest, 0), complex(0x1p970, greatest), complex(1e300, -1e-300),
	} {
		for _, rad := range []float64{0, least, 0x1p-53, 0.1, afterOne, 0x1p1000, greatest} {
			out = append(out, api.Ball{Mid: z, Rad: rad})
		}
	}
	return out
}

// numbers makes floats and balls by a rule.
type numbers struct{ seed uint64 }

func (r *numbers) word() uint64 {
	r.seed = r.seed*6364136223846793005 + 1442695040888963407
	return r.seed>>32 ^ r.seed<<32
}

func (r *numbers) below(n int) int { return int(r.word() >> 1 % uint64(n)) }

// float is finite: near 1, of few binary digits, of any bits, below the least normal one, great, or a nought.
func (r *numbers) float() float64 {
	sign := float64(1 - r.below(2)*2)
	m := math.Ldexp(float64(1<<52|r.word()>>12), -52)
	switch r.below(10) {
	case 0:
		return sign * math.Ldexp(m, r.below(2098)-1074)
	case 1:
		return sign * float64(r.word()>>(12+r.below(52))) * least
	case 2:
		return sign * math.Ldexp(m, 1023-r.below(3))
	case 3:
		return sign * 0
	case 4, 5:
		return sign * math.Ldexp(float64(r.below(64)), r.below(12)-6)
	}
	return sign * math.Ldexp(m, r.below(120)-60)
}

func (r *numbers) value() complex128 { return complex(r.float(), r.float()) }

// ball may be: most often with a radius that counts beside what a sum of its middle loses; seldom a point, or the plane.
func (r *numbers) ball() api.Ball {
	b := api.Ball{Mid: r.value(), Rad: math.Abs(r.float())}
	switch r.below(8) {
	case 0, 1:
		b.Rad = 0
	case 2, 3:
		b.Rad = math.Abs(math.Ldexp(real(b.Mid), -40-r.below(30)))
	case 4:
		if r.below(8) == 0 {
			return plane
		}
	}
	b.Rad = min(b.Rad, greatest)
	return b
}

// beside is a float by which the first one, added, nearly goes away, or loses some bits, around half of its last one too.
func (r *numbers) beside(f float64) float64 {
	switch r.below(3) {
	case 0:
		f = -f * (1 + 0x1p-52*float64(r.below(9)-4))
	case 1:
		f *= math.Ldexp(1+0x1p-52*float64(r.below(3)), -r.below(110))
	default:
		f = r.float()
	}
	return max(-greatest, min(greatest, f))
}

// pair are two balls of which the sum's middle is most often not exact.
func (r *numbers) pair() (api.Ball, api.Ball) {
	a, b := r.ball(), r.ball()
	if a.Rad < inf && b.Rad < inf {
		b.Mid = complex(r.beside(real(a.Mid)), r.beside(imag(a.Mid)))
	}
	if r.below(2) == 0 {
		return b, a
	}
	return a, b
}

// same tells whether two floats are alike as the document compares answers.
func same(a, b float64) bool {
	return math.Float64bits(a) == math.Float64bits(b) || a != a && b != b
}

func alike(a, b api.Ball) bool {
	return same(real(a.Mid), real(b.Mid)) && same(imag(a.Mid), imag(b.Mid)) && same(a.Rad, b.Rad)
}

func check(t *testing.T, got api.Ball, err api.Errno, want api.Ball, what string, of ...any) {
	t.Helper()
	if !alike(got, want) || err != api.OK {
		t.Errorf("%s(%.200v) = %v, %v, want %v", what, of, got, err, want)
	}
}

func checkErr(t *testing.T, got api.Ball, err, want api.Errno, what string, of ...any) {
	t.Helper()
	if !alike(got, api.Ball{}) || err != want {
		t.Errorf("%s(%.200v) = %v, %v, want the error %v", what, of, got, err, want)
	}
}

// What follows reckons with the library: numbers as whole ones of 2^-2148, of which products of two floats are made.

const place = 2148

func whole(f float64) *big.Int {
	frac, exp := math.Frexp(f)
	n := big.NewInt(int64(frac * (1 << 53)))
	return n.Lsh(n, uint(exp-53+place))
}

func added(a, b *big.Int) *big.Int { return new(big.Int).Add(a, b) }

func taken(a, b *big.Int) *big.Int { return new(big.Int).Sub(a, b) }

// both is the exact sum of two floats.
func both(a, b float64) *big.Int { return added(whole(a), whole(b)) }

func square(a *big.Int) *big.Int { return new(big.Int).Mul(a, a) }

// times is the product of two floats.
func times(a, b float64) *big.Int {
	n := new(big.Int).Mul(whole(a), whole(b))
	return n.Rsh(n, place) // what is cut off are noughts
}

// apart is how far a float is from a number.
func apart(f float64, n *big.Int) *big.Int {
	rest := taken(whole(f), n)
	return rest.Abs(rest)
}

// upper is a number that is not below 0, rounded up, by halving the floats.
func upper(n *big.Int) float64 {
	lo, hi := uint64(0), math.Float64bits(inf)
	for lo < hi {
		half := lo + (hi-lo)/2
		if whole(math.Float64frombits(half)).Cmp(n) >= 0 {
			hi = half
		} else {
			lo = half + 1
		}
	}
	return math.Float64frombits(lo)
}

// wantAround is the ball with this middle, that is x and y but for its error, and a radius that holds far, too.
func wantAround(mid complex128, x, y, far *big.Int) api.Ball {
	if infinite(real(mid)) || infinite(imag(mid)) {
		return plane
	}
	rad := upper(added(far, added(apart(real(mid), x), apart(imag(mid), y))))
	if rad == inf {
		return plane
	}
	return api.Ball{Mid: mid, Rad: rad}
}

func infinite(f float64) bool { return math.IsInf(f, 0) }

// TestHelpers: upper and whole at floats that are known, and the balls made by a rule may be, often with something lost in their sum.
func TestHelpers(t *testing.T) {
	half := new(big.Int).Rsh(whole(least), 1)
	for _, c := range []struct {
		n    *big.Int
		want float64
	}{
		{new(big.Int), 0}, {half, least}, {whole(least), least}, {added(whole(1), half), afterOne}, {whole(1), 1}, {whole(greatest), greatest}, {added(whole(greatest), half), inf}, {times(0.5, 0.5), 0.25}, {times(least, least), least}, {times(0x1p-537, 0x1p-537), least}, {times(-0x1p-537, -0x1.8p-537), 2 * least}, {apart(-1, whole(2)), 3},
	} {
		if got := upper(c.n); got != c.want {
			t.Errorf("%v rounded up = %v, want %v", c.n, got, c.want)
		}
	}
	r := numbers{150}
	lost, planes := 0, 0
	for range 1000 {
		a, b := r.pair()
		if infinite(a.Rad) || infinite(b.Rad) {
			planes++
			continue
		}
		if sum := a.Mid + b.Mid; !infinite(real(sum)) && apart(real(sum), both(real(a.Mid), real(b.Mid))).Sign() > 0 {
			lost++
		}
	}
	if lost < 300 || planes == 0 || planes > 200 {
		t.Error(lost, planes)
	}
}
