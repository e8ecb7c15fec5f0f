package root_test

import (
	"math"
	"math/big"
	"sort"
	"testing"

	"cusp/api"
	"cusp/ball"
	"cusp/root"
)

const (
	least      = math.SmallestNonzeroFloat64 // 2^-1074
	greatest   = math.MaxFloat64
	beforeMost = 0x1.ffffffffffffep1023
	afterOne   = 0x1.0000000000001p0
	beforeOne  = 0x1.fffffffffffffp-1
)

var (
	inf       = math.Inf(1)
	nan       = math.NaN()
	minusZero = math.Copysign(0, -1)
	plane     = of(0, 0, inf)
)

func of(x, y, rad float64) api.Ball { return api.Ball{Mid: complex(x, y), Rad: rad} }

func dot(x, y float64) api.Ball { return of(x, y, 0) }

// nans are quiet and signalling ones, of both signs.
func nans() []float64 {
	return []float64{nan, math.Float64frombits(0xFFF0000000000001), math.Float64frombits(0x7FF0000000000001), math.Float64frombits(0xFFFFFFFFFFFFFFFF)}
}

// anyFloats are floats where rules change, with both signs, and NaNs.
func anyFloats() []float64 {
	out := append(nans(), 0, minusZero)
	for _, f := range []float64{least, 0x1p-1022, 0x1p-537, 0.1, 1, 3, 0x1p512, greatest, inf} {
		out = append(out, f, -f)
	}
	return out
}

// wrongModes are none.
func wrongModes() []int { return []int{0, 4, -1, -2, 5, math.MaxInt, math.MinInt} }

// wrongBalls are balls that may not be, each for one reason, and for several.
func wrongBalls() []api.Ball {
	out := []api.Ball{
		of(0, 0, -1), of(1, 2, -least), of(0, 0, minusZero), of(1, 1, minusZero), of(0, 0, -inf), of(5, 0, -greatest),
		of(inf, 0, 1), of(0, -inf, 1), of(-inf, inf, 0), of(inf, 0, inf), of(inf, nan, -1),
		of(1, 0, inf), of(0, 1, inf), of(minusZero, 0, inf), of(0, minusZero, inf), // the plane's Mid is 0+0i
	}
	for _, f := range nans() {
		out = append(out, of(f, 0, 1), of(0, f, 0), of(0, 0, f), of(f, f, f), of(0, f, inf))
	}
	return out
}

// corners are balls where rules change, the plane among them.
func corners() []api.Ball {
	out := []api.Ball{plane}
	for _, z := range []complex128{
		0, complex(minusZero, 0), complex(0, minusZero), complex(minusZero, minusZero), 1, complex(1, minusZero), -1, complex(-1, minusZero), 1i, complex(minusZero, -1), 3 - 4i, complex(afterOne, -0.1), complex(1, least), complex(-1, -least),
		complex(least, -least), complex(-least, minusZero), complex(0x1p-537, 0x1p-538), complex(greatest, -greatest), complex(-greatest, greatest), complex(-0x1p512, minusZero), complex(1e300, least), complex(-greatest, least), complex(-least, -greatest),
	} {
		for _, rad := range []float64{0, least, 0x1p-538, 0.1, beforeOne, 1, 0x1p511, beforeMost, greatest} {
			out = append(out, api.Ball{Mid: z, Rad: rad})
		}
	}
	return out
}

// numbers makes floats and balls by a rule.
type numbers struct{ seed uint64 }

func (r *numbers) word() uint64 {
	r.seed = r.seed*6364136223846793005 + 1442695040888963407
	return r.seed>>32 ^ r.seed<<32
}

func (r *numbers) below(n int) int { return int(r.word() >> 1 % uint64(n)) }

// float is finite: most often near 1, or of few binary digits; seldom of any bits, about the least and the greatest one, or a nought.
func (r *numbers) float() float64 {
	sign := float64(1 - r.below(2)*2)
	m := math.Ldexp(float64(1<<52|r.word()>>12), -52)
	switch r.below(16) {
	case 0, 1:
		return sign * math.Ldexp(m, r.below(2098)-1074)
	case 2:
		return sign * float64(r.word()>>(12+r.below(52))) * least
	case 3:
		return sign * math.Ldexp(m, 1023-r.below(6))
	case 4:
		return sign * 0
	case 5, 6, 7:
		return sign * math.Ldexp(float64(r.below(64)), r.below(12)-6)
	}
	return sign * math.Ldexp(m, r.below(60)-30)
}

// step is a float so many ones further.
func step(f float64, by int) float64 {
	for ; by > 0; by-- {
		f = min(math.Nextafter(f, inf), greatest)
	}
	for ; by < 0; by++ {
		f = max(math.Nextafter(f, -inf), -greatest)
	}
	return f
}

// value is often one whose root has a part near to floats, or between: a square, or what is hardly one; or nearly a real number.
func (r *numbers) value() complex128 {
	switch z := complex(r.float(), r.float()); r.below(6) {
	case 0:
		few := math.Ldexp(float64(r.below(1<<20)), r.below(8)-20)
		u, v := few, float64(r.below(1<<14)-1<<13)
		return complex(step(u*u-v*v, r.below(3)-1), step(2*u*v, r.below(3)-1))
	case 1:
		return complex(real(z), real(z)*(float64(r.below(256))/128-1))
	case 2:
		few := float64(r.below(1 << 20))
		return complex((1-2*float64(r.below(2)))*math.Ldexp(few*few, r.below(500)*2-500), float64(r.below(64)-32)*least)
	case 3:
		return complex(real(z), math.Ldexp(real(z), -40-r.below(20)))
	default:
		return z
	}
}

// size is the magnitude of a value, or nearly so.
func size(z complex128) float64 { return min(math.Hypot(real(z), imag(z)), greatest) }

// ball may be: a point, or one with the cut within, beyond, or hardly touched; seldom the plane.
func (r *numbers) ball() api.Ball {
	b := api.Ball{Mid: r.value()}
	switch r.below(10) {
	case 0, 1:
		if r.below(2) == 0 {
			b.Mid = complex(real(b.Mid), math.Copysign(0, imag(b.Mid)))
		}
	case 2, 3:
		b.Rad = size(b.Mid) * (float64(r.below(64)) / 64)
	case 4:
		b.Rad = math.Ldexp(size(b.Mid), -30-r.below(40))
	case 5, 6:
		return r.touching()
	case 7:
		b.Rad = math.Abs(step(imag(b.Mid), r.below(5)-2))
	case 8:
		b.Rad = math.Abs(r.float())
	default:
		if r.below(8) == 0 {
			return plane
		}
	}
	return b
}

// finer is 5 * 13 * 17, so that some numbers on a ball's rim are told exactly.
const finer = 1105

// directions lead to the rim: each pair of parts is finer long.
func directions() [][2]int64 {
	var out [][2]int64
	for _, d := range [][3]int64{{1, 0, 1}, {0, 1, 1}, {3, 4, 5}, {4, 3, 5}, {5, 12, 13}, {12, 5, 13}, {8, 15, 17}, {15, 8, 17}} {
		x, y := d[0]*(finer/d[2]), d[1]*(finer/d[2])
		out = append(out, [2]int64{x, y}, [2]int64{-x, y}, [2]int64{x, -y}, [2]int64{-x, -y})
	}
	return out
}

// touching has 0, or another real number that is not above it, on its rim, or comes as near to that as floats allow.
func (r *numbers) touching() api.Ball {
	d := directions()[r.below(32)]
	by := math.Ldexp(1, r.below(40)-20)
	b := of(float64(d[0])*by, float64(d[1])*by, finer*by)
	if real(b.Mid) < 0 {
		b.Rad = math.Abs(imag(b.Mid))
	}
	b.Rad = max(0, step(b.Rad, r.below(5)-2))
	return b
}

// same tells whether two floats are alike as the document compares answers.
func same(a, b float64) bool {
	return math.Float64bits(a) == math.Float64bits(b) || a != a && b != b
}

func sameValue(z, w complex128) bool {
	return same(real(z), real(w)) && same(imag(z), imag(w))
}

func alike(a, b api.Ball) bool { return sameValue(a.Mid, b.Mid) && same(a.Rad, b.Rad) }

// equal tells whether two balls are, but for noughts.
func equal(a, b api.Ball) bool { return a.Mid == b.Mid && a.Rad == b.Rad }

func conjugate(z complex128) complex128 { return complex(real(z), -imag(z)) }

// conjugateBall is b on the other side of the real axis; the plane's middle is 0+0i.
func conjugateBall(b api.Ball) api.Ball {
	if b == plane {
		return plane
	}
	return api.Ball{Mid: conjugate(b.Mid), Rad: b.Rad}
}

func checkPrincipal(t *testing.T, z complex128, mode int, want complex128) {
	t.Helper()
	if got, err := root.Principal(z, mode); !sameValue(got, want) || err != api.OK {
		t.Errorf("Principal(%x, %d) = %x, %v, want %x", z, mode, got, err, want)
	}
}

func checkSqrt(t *testing.T, b, want api.Ball, wantSide int) {
	t.Helper()
	got, side, err := root.Sqrt(b)
	if !alike(got, want) || side != wantSide || err != api.OK {
		t.Errorf("Sqrt(%x) = %x, %d, %v, want %x, %d", b, got, side, err, want, wantSide)
	}
}

// What follows reckons with the library: floats as whole numbers of parts, 2^-1075, so that what lies halfway between two of them is whole too.

const place = 1075

func whole(f float64) *big.Int {
	frac, exp := math.Frexp(f)
	n := big.NewInt(int64(frac * (1 << 53)))
	n.Lsh(n, uint(exp+place))
	return n.Rsh(n, 53) // what is cut off are noughts
}

func added(a, b *big.Int) *big.Int { return new(big.Int).Add(a, b) }

func taken(a, b *big.Int) *big.Int { return new(big.Int).Sub(a, b) }

func multiplied(a, b *big.Int) *big.Int { return new(big.Int).Mul(a, b) }

func square(a *big.Int) *big.Int { return multiplied(a, a) }

// asSquare counts a number of parts in their squares.
func asSquare(a *big.Int) *big.Int { return new(big.Int).Lsh(a, place) }

func norm(z complex128) *big.Int { return added(square(whole(real(z))), square(whole(imag(z)))) }

// first is the least float, from +0 on, of which ok is true, as of all greater ones; if it's of none that is finite, +Inf.
func first(ok func(n *big.Int) bool) float64 {
	return math.Float64frombits(uint64(sort.Search(0x7FF<<52, func(bits int) bool {
		return ok(whole(math.Float64frombits(uint64(bits))))
	})))
}

// last is the greatest float of which beyond is not true, that is not true of +0.
func last(beyond func(n *big.Int) bool) float64 { return math.Nextafter(first(beyond), 0) }

// upper is a number of parts, rounded up.
func upper(a *big.Int) float64 { return first(func(n *big.Int) bool { return n.Cmp(a) >= 0 }) }

// rootBelow is a float's square root, rounded down.
func rootBelow(f float64) float64 {
	return last(func(n *big.Int) bool { return square(n).Cmp(asSquare(whole(f))) > 0 })
}

// held holds n parts against the square root of half of |z| + x: exactly, by squaring twice.
func held(n *big.Int, x *big.Int, norm *big.Int) int {
	d := square(n)
	d.Lsh(d, 1)
	d.Sub(d, asSquare(x)) // against |z|
	if d.Sign() < 0 {
		return -1
	}
	return square(d).Cmp(asSquare(asSquare(norm)))
}

// wantPart is that root, rounded down, to the nearest and up.
func wantPart(x *big.Int, norm *big.Int) [3]float64 {
	high := first(func(n *big.Int) bool { return held(n, x, norm) >= 0 })
	if held(whole(high), x, norm) == 0 {
		return [3]float64{high, high, high}
	}
	low, near := math.Nextafter(high, 0), high
	middle := added(whole(low), whole(high))
	if held(middle.Rsh(middle, 1), x, norm) > 0 { // it never is 0, of no float
		near = low
	}
	return [3]float64{low, near, high}
}

// wantRoots are RO1's, of Down, Near and Up.
func wantRoots(z complex128) [3]complex128 {
	x, n := whole(real(z)), norm(z)
	re, im := wantPart(x, n), wantPart(new(big.Int).Neg(x), n)
	if math.Signbit(imag(z)) {
		im = [3]float64{-im[2], -im[1], -im[0]}
	}
	return [3]complex128{complex(re[0], im[0]), complex(re[1], im[1]), complex(re[2], im[2])}
}

// onCut tells whether a value is on it, and from which side.
func onCut(z complex128) int {
	switch {
	case imag(z) != 0 || real(z) >= 0:
		return api.SideNone
	case math.Signbit(imag(z)):
		return api.SideBelow
	}
	return api.SideAbove
}

// wantRay tells whether the nearest real number that is not above 0 lies in a ball.
func wantRay(b api.Ball) bool {
	x := min(real(b.Mid), 0)
	return b == plane || norm(complex(real(b.Mid)-x, imag(b.Mid))).Cmp(square(whole(b.Rad))) <= 0
}

// wantPoint is RO2's of a point.
func wantPoint(z complex128) api.Ball {
	roots := wantRoots(z)
	re := upper(taken(whole(real(roots[2])), whole(real(roots[0]))))
	im := upper(taken(whole(imag(roots[2])), whole(imag(roots[0]))))
	return api.Ball{Mid: roots[1], Rad: upper(added(whole(re), whole(im)))}
}

// wantBoth is the radius where the ray is met.
func wantBoth(b api.Ball) float64 {
	rad, n := whole(b.Rad), norm(b.Mid)
	farthest := first(func(f *big.Int) bool { return f.Cmp(rad) >= 0 && square(taken(f, rad)).Cmp(n) >= 0 })
	if farthest == inf {
		return inf
	}
	return first(func(f *big.Int) bool { return square(f).Cmp(asSquare(whole(farthest))) >= 0 })
}

// wantReach is what the ball's radius adds to the root's where the ray is not met.
func wantReach(b api.Ball) float64 {
	rad, n := whole(b.Rad), norm(b.Mid)
	middle := last(func(f *big.Int) bool { return square(f).Cmp(n) > 0 })
	nearest := last(func(f *big.Int) bool { return square(added(f, rad)).Cmp(n) > 0 })
	sum := added(whole(rootBelow(middle)), whole(rootBelow(nearest)))
	both := whole(last(func(f *big.Int) bool { return f.Cmp(sum) > 0 }))
	return first(func(f *big.Int) bool { return multiplied(f, both).Cmp(asSquare(rad)) >= 0 })
}

// wantSqrt is RO2's.
func wantSqrt(b api.Ball) (api.Ball, int) {
	switch {
	case b == plane:
		return plane, api.SideBoth
	case b.Rad == 0:
		return wantPoint(b.Mid), onCut(b.Mid)
	case wantRay(b):
		return of(0, 0, wantBoth(b)), api.SideBoth
	}
	point := wantPoint(b.Mid)
	return api.Ball{Mid: point.Mid, Rad: upper(added(whole(point.Rad), whole(wantReach(b))))}, api.SideNone
}

// TestHelpers: the library's ways at numbers that are known, and the balls made by a rule are of many kinds.
func TestHelpers(t *testing.T) {
	for _, f := range []float64{0, least, 3 * least, 0x1p-1022, 0.1, 1, afterOne, greatest} {
		n := whole(f)
		more := added(n, big.NewInt(1))
		if upper(n) != f || upper(more) != math.Nextafter(f, inf) || last(func(a *big.Int) bool { return a.Cmp(n) > 0 }) != f {
			t.Errorf("%x: %x, %x", f, upper(n), upper(more))
		}
	}
	for _, c := range [][2]float64{{0, 0}, {4, 2}, {3, 0x1.bb67ae8584caap0}, {2, 0x1.6a09e667f3bccp0}, {least, 0x1p-537}, {greatest, 0x1.fffffffffffffp511}} {
		if got := rootBelow(c[0]); got != c[1] {
			t.Errorf("the root of %x, rounded down = %x", c[0], got)
		}
	}
	r := numbers{180}
	sides, balls, exact := map[int]int{}, map[int]int{}, 0
	for range 1500 {
		b := r.ball()
		if !ball.Valid(b) {
			t.Error(b, "may not be")
		}
		side := onCut(b.Mid)
		if b.Rad > 0 {
			if wantRay(b) {
				side = api.SideBoth
			}
			balls[side]++
			continue
		}
		sides[side]++
		if roots := wantRoots(b.Mid); roots[0] == roots[2] {
			exact++
		}
	}
	if exact < 30 || sides[api.SideAbove] < 20 || sides[api.SideBelow] < 20 || sides[api.SideNone] < 100 || balls[api.SideNone] < 300 || balls[api.SideBoth] < 200 {
		t.Error(exact, sides, balls)
	}
}
