package ball_test

import (
	"math"
	"math/big"
	"testing"

	"cusp/api"
	"cusp/ball"
)

const (
	least    = math.SmallestNonzeroFloat64 // 2^-1074
	greatest = math.MaxFloat64
	afterOne = 0x1.0000000000001p0
)

var (
	inf       = math.Inf(1)
	nan       = math.NaN()
	minusZero = math.Copysign(0, -1)
	plane     = of(0, 0, inf)
)

func of(x, y, rad float64) api.Ball { return api.Ball{Mid: complex(x, y), Rad: rad} }

func dot(x, y float64) api.Ball { return of(x, y, 0) }

func between(lo, hi float64) api.Interval { return api.Interval{Lo: lo, Hi: hi} }

// nans are quiet and signalling ones, of both signs.
func nans() []float64 {
	return []float64{nan, math.Float64frombits(0xFFF0000000000001), math.Float64frombits(0x7FF0000000000001), math.Float64frombits(0xFFFFFFFFFFFFFFFF)}
}

// anyFloats are floats where rules change, with both signs, and NaNs.
func anyFloats() []float64 {
	out := nans()
	for _, f := range []float64{0, least, 0x1p-1022, 0.1, 1, 3, 0x1p1023, greatest, inf} {
		out = append(out, f, -f)
	}
	return append(out, minusZero)
}

// wrongBalls are balls that may not be, each for one reason, and for several.
func wrongBalls() []api.Ball {
	out := []api.Ball{
		of(0, 0, -1), of(1, 2, -least), of(0, 0, minusZero), of(1, 1, minusZero), of(0, 0, -inf), of(0, 0, -greatest),
		of(inf, 0, 1), of(0, -inf, 1), of(-inf, inf, 0), of(inf, 0, inf), of(0, inf, inf), of(inf, nan, 1), of(nan, 0, -1),
		of(1, 0, inf), of(0, 1, inf), of(-least, 0, inf), of(0, least, inf), of(greatest, greatest, inf),
		of(minusZero, 0, inf), of(0, minusZero, inf), of(minusZero, minusZero, inf), // the plane's Mid is 0+0i
	}
	for _, f := range nans() {
		out = append(out, of(f, 0, 1), of(0, f, 1), of(0, 0, f), of(f, f, f), of(0, f, inf))
	}
	return out
}

// corners are balls where rules change, the plane among them.
func corners() []api.Ball {
	out := []api.Ball{plane}
	for _, z := range []complex128{
		0, complex(minusZero, 0), complex(0, minusZero), complex(minusZero, minusZero), 1, -1, 1i, 3 + 4i, -3 - 4i, complex(0.1, -0.2), complex(1, minusZero),
		complex(least, 0), complex(-least, least), complex(0x1p-1022, -3*least), complex(greatest, greatest), complex(-greatest, 0), complex(0, greatest), complex(1e300, -1e-300),
	} {
		for _, rad := range []float64{0, least, 3 * least, 0.1, 1, afterOne, 5, 0x1p1000, greatest} {
			out = append(out, api.Ball{Mid: z, Rad: rad})
		}
	}
	return out
}

// numbers makes floats and balls by a rule.
type numbers struct{ seed uint64 }

func (r *numbers) word() uint64 {
	r.seed = r.seed*6364136223846793005 + 1442695040888963407
	return r.seed>>32 ^ r.seed<<32
}

func (r *numbers) below(n int) int { return int(r.word() >> 1 % uint64(n)) }

// float is finite: near 1, of few binary digits, of any bits, below the least normal one, great, or a nought.
func (r *numbers) float() float64 {
	sign := float64(1 - r.below(2)*2)
	m := math.Ldexp(float64(1<<52|r.word()>>12), -52)
	switch r.below(10) {
	case 0:
		return sign * math.Ldexp(m, r.below(2096)-1074)
	case 1:
		return sign * float64(r.word()>>(12+r.below(52))) * least
	case 2:
		return sign * math.Ldexp(m, 1023-r.below(3))
	case 3:
		return sign * 0
	case 4, 5, 6:
		return sign * math.Ldexp(float64(r.below(64)), r.below(12)-6)
	}
	return sign * math.Ldexp(m, r.below(20)-10)
}

func (r *numbers) value() complex128 { return complex(r.float(), r.float()) }

// stepped is f some floats on, and no infinity.
func (r *numbers) stepped(f float64) float64 {
	to := inf
	if r.below(2) == 0 {
		to = -inf
	}
	for range r.below(4) {
		f = math.Nextafter(f, to)
	}
	return max(-greatest, min(greatest, f))
}

// nearTo is a value at most a few floats away from another one, part by part, or anywhere.
func (r *numbers) nearTo(z complex128) complex128 {
	switch r.below(4) {
	case 0:
		return r.value()
	case 1:
		return complex(r.stepped(real(z)), r.float())
	}
	return complex(r.stepped(real(z)), r.stepped(imag(z)))
}

// ball may be: a point, one with a radius near its middle's magnitude, any one; seldom the plane.
func (r *numbers) ball() api.Ball {
	b := api.Ball{Mid: r.value(), Rad: math.Abs(r.float())}
	switch r.below(8) {
	case 0:
		b.Rad = 0
	case 1, 2:
		b.Rad = r.stepped(math.Hypot(real(b.Mid), imag(b.Mid)))
	case 3:
		b.Rad = math.Abs(r.stepped(real(b.Mid)))
	case 4:
		if r.below(8) == 0 {
			return plane
		}
	}
	b.Rad = max(b.Rad, 0) + 0
	return b
}

// pair are two balls, most often near the edge of something: one just touches the other, from without or within.
func (r *numbers) pair() (api.Ball, api.Ball) {
	a, b := r.ball(), r.ball()
	if r.below(4) == 0 {
		b.Mid = r.nearTo(a.Mid)
	}
	if a.Rad == inf || b.Rad == inf {
		return r.swapped(a, plane)
	}
	far := math.Hypot(real(a.Mid)-real(b.Mid), imag(a.Mid)-imag(b.Mid))
	switch r.below(4) {
	case 0:
		b.Rad = math.Abs(r.stepped(far - a.Rad))
	case 1:
		b.Rad = r.stepped(far + a.Rad)
	case 2:
		a.Rad, b.Rad = r.stepped(far/2), r.stepped(far/2)
	}
	a.Rad, b.Rad = max(a.Rad, 0)+0, max(b.Rad, 0)+0
	return r.swapped(a, b)
}

func (r *numbers) swapped(a, b api.Ball) (api.Ball, api.Ball) {
	if r.below(2) == 0 {
		return b, a
	}
	return a, b
}

// same tells whether two floats are alike as the document compares answers.
func same(a, b float64) bool {
	return math.Float64bits(a) == math.Float64bits(b) || a != a && b != b
}

func alike(a, b api.Ball) bool {
	return same(real(a.Mid), real(b.Mid)) && same(imag(a.Mid), imag(b.Mid)) && same(a.Rad, b.Rad)
}

func check(t *testing.T, got api.Ball, err api.Errno, want api.Ball, what string, of ...any) {
	t.Helper()
	if !alike(got, want) || err != api.OK {
		t.Errorf("%s(%.120v) = %v, %v, want %v", what, of, got, err, want)
	}
}

func checkErr(t *testing.T, got api.Ball, err, want api.Errno, what string, of ...any) {
	t.Helper()
	if !alike(got, api.Ball{}) || err != want {
		t.Errorf("%s(%.120v) = %v, %v, want the error %v", what, of, got, err, want)
	}
}

func checkSpan(t *testing.T, got, want api.Interval, what string, of ...any) {
	t.Helper()
	if !same(got.Lo, want.Lo) || !same(got.Hi, want.Hi) {
		t.Errorf("%s(%v) = %x, want %x", what, of, got, want)
	}
}

func checkIs(t *testing.T, got, want bool, what string, of ...any) {
	t.Helper()
	if got != want {
		t.Errorf("%s(%v) = %v", what, of, got)
	}
}

// What follows reckons with the library: floats as whole numbers of 2^-1074.

func whole(f float64) *big.Int {
	frac, exp := math.Frexp(f)
	n := big.NewInt(int64(frac * (1 << 53)))
	shift := exp - 53 + 1074
	if shift < 0 {
		return n.Rsh(n, uint(-shift)) // what is cut off are noughts
	}
	return n.Lsh(n, uint(shift))
}

func plus(a, b *big.Int) *big.Int { return new(big.Int).Add(a, b) }

func minus(a, b *big.Int) *big.Int { return new(big.Int).Sub(a, b) }

func square(a *big.Int) *big.Int { return new(big.Int).Mul(a, a) }

// distance is the square of that between two values.
func distance(z, w complex128) *big.Int {
	return plus(square(minus(whole(real(z)), whole(real(w)))), square(minus(whole(imag(z)), whole(imag(w)))))
}

// atMost tells whether the root of p is at most d.
func atMost(p, d *big.Int) bool { return d.Sign() >= 0 && p.Cmp(square(d)) <= 0 }

// notBelow tells whether f is at least c and the root of p.
func notBelow(f float64, c, p *big.Int) bool { return f == inf || atMost(p, minus(whole(f), c)) }

// upper is c and the root of p, rounded up, by halving the floats above 0.
func upper(c, p *big.Int) float64 {
	lo, hi := uint64(0), math.Float64bits(inf)
	for lo < hi {
		half := lo + (hi-lo)/2
		if notBelow(math.Float64frombits(half), c, p) {
			hi = half
		} else {
			lo = half + 1
		}
	}
	return math.Float64frombits(lo)
}

// towards is a whole number of 2^-1075, rounded; of 0 it is +0.
func towards(n *big.Int, mode int) float64 {
	v := new(big.Rat).SetFrac(n, new(big.Int).Lsh(big.NewInt(1), 1075))
	return rounded(v, mode)
}

// rounded is the library's nearest float, or its neighbour where it lies on the wrong side.
func rounded(v *big.Rat, mode int) float64 {
	near, _ := v.Float64()
	far := 1 // how near stands to the number: an infinity is beyond it
	if near < 0 {
		far = -1
	}
	if !math.IsInf(near, 0) {
		far = new(big.Rat).SetFloat64(near).Cmp(v)
	}
	switch {
	case mode == api.Down && far > 0:
		near = math.Nextafter(near, -inf)
	case mode == api.Up && far < 0:
		near = math.Nextafter(near, inf)
	}
	return math.Copysign(near, float64(v.Sign()))
}

func twice(n *big.Int) *big.Int { return new(big.Int).Lsh(n, 1) }

// finite is a ball of that middle and radius, or the plane.
func finite(mid complex128, rad float64) api.Ball {
	if rad == inf || math.IsInf(real(mid), 0) || math.IsInf(imag(mid), 0) {
		return plane
	}
	return api.Ball{Mid: mid, Rad: rad}
}

// TestHelpers: the pairs are often such that a thing is so, often not.
func TestHelpers(t *testing.T) {
	r := numbers{140}
	var within, meets, ray, wholes int
	for range 2000 {
		a, b := r.pair()
		if !ball.Valid(a) || !ball.Valid(b) {
			t.Fatalf("%v, %v", a, b)
		}
		for i, is := range []bool{ball.Within(a, b), ball.Meets(a, b), ball.Ray(a), ball.Whole(a)} {
			if is {
				*[]*int{&within, &meets, &ray, &wholes}[i]++
			}
		}
	}
	for _, n := range []int{within, meets, ray} {
		if n < 200 || n > 1900 {
			t.Error(within, meets, ray)
		}
	}
	if wholes == 0 || wholes > 400 {
		t.Error(wholes)
	}
}
