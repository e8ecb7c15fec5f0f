package span_test

import (
	"math"
	"math/big"
	"slices"
	"testing"

	"cusp/api"
	"cusp/dyad"
)

const (
	least       = math.SmallestNonzeroFloat64 // 2^-1074
	leastNormal = 0x1p-1022
	greatest    = math.MaxFloat64
	beforeTop   = 0x1.ffffffffffffep1023 // the float below the greatest one
	afterOne    = 0x1.0000000000001p0
	beforeOne   = 0x1.fffffffffffffp-1
)

var (
	inf       = math.Inf(1)
	nan       = math.NaN()
	minusZero = math.Copysign(0, -1)
)

func of(lo, hi float64) api.Interval { return api.Interval{Lo: lo, Hi: hi} }

func alone(f float64) api.Interval { return of(f, f) }

// wrongIntervals are intervals that may not be, each for one reason, and for several.
func wrongIntervals() []api.Interval {
	signalling := math.Float64frombits(0xFFF0000000000001)
	return []api.Interval{
		of(nan, 1), of(1, nan), of(nan, nan), of(signalling, 0), of(-inf, signalling), of(nan, inf),
		of(1, -1), of(afterOne, 1), of(0, -least), of(least, 0), of(greatest, -greatest), of(inf, -inf), of(inf, 0), of(0, -inf),
		alone(inf), alone(-inf),
		of(minusZero, 1), of(-1, minusZero), of(minusZero, 0), of(0, minusZero), alone(minusZero), of(minusZero, inf), of(-inf, minusZero),
	}
}

// corners are ends where rules change, from the least to the greatest.
func corners() []float64 {
	return []float64{-inf, -greatest, -3, -1, -least, 0, least, 0.1, 1, 3, greatest, inf}
}

// edges are more of them.
func edges() []float64 {
	out := append(corners(), -2, -0.5, -leastNormal, -0x1p-537, 3*least, leastNormal, 0x1p-538, 0x1.8p-53, beforeOne, afterOne, 2, 0x1p53, 0x1p512, beforeTop)
	slices.Sort(out)
	return out
}

// intervals are all that may be with ends of a list that rises.
func intervals(ends []float64) []api.Interval {
	var out []api.Interval
	for i, lo := range ends {
		for _, hi := range ends[i:] {
			if lo != inf && hi != -inf {
				out = append(out, of(lo, hi))
			}
		}
	}
	return out
}

// numbers makes floats and intervals by a rule.
type numbers struct{ seed uint64 }

func (r *numbers) word() uint64 {
	r.seed = r.seed*6364136223846793005 + 1442695040888963407
	return r.seed>>32 ^ r.seed<<32
}

func (r *numbers) below(n int) int { return int(r.word() >> 1 % uint64(n)) }

// float is finite and no -0: of any bits, near 1, of few binary digits, below the least normal one, or great.
func (r *numbers) float() float64 {
	sign := float64(1 - r.below(2)*2)
	m := math.Ldexp(float64(1<<52|r.word()>>12), -52)
	switch r.below(6) {
	case 0:
		return sign * math.Ldexp(m, r.below(2096)-1074)
	case 1, 2:
		return sign * math.Ldexp(m, r.below(110)-55)
	case 3:
		return sign*math.Ldexp(float64(r.below(64)), r.below(110)-55) + 0
	case 4:
		return sign*float64(r.word()>>(12+r.below(52)))*least + 0
	}
	return sign * math.Ldexp(m, 1023-r.below(3))
}

// interval may be: it has any ends, or ends near one another, one number, a nought as an end, or no end.
func (r *numbers) interval() api.Interval {
	lo, hi := r.float(), r.float()
	switch r.below(8) {
	case 0:
		hi = lo
	case 1, 2:
		hi = lo
		for range r.below(5) {
			hi = math.Nextafter(hi, inf) + 0
		}
	case 3:
		hi = 0
	case 4:
		return of(min(lo, hi), inf)
	case 5:
		return of(-inf, min(lo, hi))
	}
	return of(min(lo, hi), min(max(lo, hi), greatest))
}

// in is a finite float of an interval, often an end.
func (r *numbers) in(s api.Interval) float64 {
	lo, hi := max(s.Lo, -greatest), min(s.Hi, greatest)
	for range 4 {
		if f := r.float(); lo <= f && f <= hi {
			return f
		}
	}
	switch r.below(3) {
	case 0:
		return lo
	case 1:
		return hi
	}
	return max(lo, min(hi, lo/2+hi/2)) + 0
}

// part is an interval within another one.
func (r *numbers) part(s api.Interval) api.Interval {
	f, g := r.in(s), r.in(s)
	switch r.below(4) {
	case 0:
		return of(s.Lo, f)
	case 1:
		return of(f, s.Hi)
	case 2:
		return s
	}
	return of(min(f, g), max(f, g))
}

// same tells whether two floats are alike as the document compares answers.
func same(a, b float64) bool {
	return math.Float64bits(a) == math.Float64bits(b) || a != a && b != b
}

func alike(a, b api.Interval) bool { return same(a.Lo, b.Lo) && same(a.Hi, b.Hi) }

func check(t *testing.T, got api.Interval, err api.Errno, want api.Interval, what string, of ...any) {
	t.Helper()
	if !alike(got, want) || err != api.OK {
		t.Errorf("%s(%x) = %x, %v, want %x", what, of, got, err, want)
	}
}

func checkErr(t *testing.T, got api.Interval, err, want api.Errno, what string, of ...any) {
	t.Helper()
	if !alike(got, api.Interval{}) || err != want {
		t.Errorf("%s(%x) = %x, %v, want the error %v", what, of, got, err, want)
	}
}

func exact(f float64) *big.Rat { return new(big.Rat).SetFloat64(f) }

// value is a Num's, by the library.
func value(a dyad.Num) *big.Rat {
	m := new(big.Int)
	for _, digit := range slices.Backward(a.M) {
		m.Or(m.Lsh(m, 32), big.NewInt(int64(digit)))
	}
	if a.Neg {
		m.Neg(m)
	}
	two := new(big.Int).Lsh(big.NewInt(1), uint(max(a.E, -a.E)))
	if a.E < 0 {
		return new(big.Rat).SetFrac(m, two)
	}
	return new(big.Rat).SetInt(m.Mul(m, two))
}

// towards is the library's nearest float to v, or that one's neighbour where it lies on the wrong side; never -0.
func towards(v *big.Rat, mode int) float64 {
	near, _ := v.Float64()
	far := 1 // how near stands to the number: an infinity is beyond it
	if near < 0 {
		far = -1
	}
	if !math.IsInf(near, 0) {
		far = exact(near).Cmp(v)
	}
	switch {
	case mode == api.Down && far > 0:
		near = math.Nextafter(near, -inf)
	case mode == api.Up && far < 0:
		near = math.Nextafter(near, inf)
	}
	return near + 0
}

// bound is a real number, or (far -1 or 1) what lies beyond all on that side.
type bound struct {
	far int
	v   *big.Rat
}

func boundOf(f float64) bound {
	switch {
	case f == inf:
		return bound{far: 1, v: new(big.Rat)}
	case f == -inf:
		return bound{far: -1, v: new(big.Rat)}
	}
	return bound{v: exact(f)}
}

func (b bound) cmp(c bound) int {
	if b.far != 0 || c.far != 0 {
		return b.far - c.far
	}
	return b.v.Cmp(c.v)
}

func (b bound) times(sign int) bound {
	return bound{far: b.far * sign, v: new(big.Rat).Mul(b.v, big.NewRat(int64(sign), 1))}
}

func (b bound) towards(mode int) float64 {
	if b.far != 0 {
		return math.Inf(b.far)
	}
	return towards(b.v, mode)
}

// reach is what lies between two bounds; its tightest interval.
type reach struct{ lo, hi bound }

func (r reach) tightest() api.Interval {
	return of(r.lo.towards(api.Down), r.hi.towards(api.Up))
}

// joined is what lies between the least and the greatest bound of several.
func joined(list []reach) reach {
	out := list[0]
	for _, r := range list[1:] {
		if r.lo.cmp(out.lo) < 0 {
			out.lo = r.lo
		}
		if r.hi.cmp(out.hi) > 0 {
			out.hi = r.hi
		}
	}
	return out
}

// piece is the numbers of an interval that have one sign: between which magnitudes they lie.
type piece struct {
	sign int
	reach
}

func pieces(s api.Interval) []piece {
	var out []piece
	lo, hi, zero := boundOf(s.Lo), boundOf(s.Hi), boundOf(0)
	if s.Lo < 0 {
		from := zero
		if s.Hi < 0 {
			from = hi.times(-1)
		}
		out = append(out, piece{-1, reach{from, lo.times(-1)}})
	}
	if s.Lo <= 0 && 0 <= s.Hi {
		out = append(out, piece{0, reach{zero, zero}})
	}
	if s.Hi > 0 {
		from := zero
		if s.Lo > 0 {
			from = lo
		}
		out = append(out, piece{1, reach{from, hi}})
	}
	return out
}

// signed is what magnitudes reach with a sign.
func signed(sign int, r reach) reach {
	switch sign {
	case 0:
		return reach{boundOf(0), boundOf(0)}
	case -1:
		return reach{r.hi.times(-1), r.lo.times(-1)}
	}
	return r
}

// product is that of two magnitudes; where one is 0 it is 0.
func product(a, b bound) bound {
	switch {
	case a.cmp(boundOf(0)) == 0 || b.cmp(boundOf(0)) == 0:
		return boundOf(0)
	case a.far != 0 || b.far != 0:
		return boundOf(inf)
	}
	return bound{v: new(big.Rat).Mul(a.v, b.v)}
}

// quotient is that of two magnitudes, b not 0.
func quotient(a, b bound) bound {
	switch {
	case b.far != 0:
		return boundOf(0)
	case a.far != 0:
		return boundOf(inf)
	}
	return bound{v: new(big.Rat).Quo(a.v, b.v)}
}

func wantMul(a, b api.Interval) api.Interval {
	var list []reach
	for _, p := range pieces(a) {
		for _, q := range pieces(b) {
			list = append(list, signed(p.sign*q.sign, reach{product(p.lo, q.lo), product(p.hi, q.hi)}))
		}
	}
	return joined(list).tightest()
}

func wantQuo(a, b api.Interval) api.Interval {
	var list []reach
	for _, p := range pieces(a) {
		for _, q := range pieces(b) {
			list = append(list, signed(p.sign*q.sign, reach{quotient(p.lo, q.hi), quotient(p.hi, q.lo)}))
		}
	}
	return joined(list).tightest()
}

func sum(a, b bound) bound {
	switch {
	case a.far != 0:
		return a
	case b.far != 0:
		return b
	}
	return bound{v: new(big.Rat).Add(a.v, b.v)}
}

func wantAdd(a, b api.Interval) api.Interval {
	return reach{sum(boundOf(a.Lo), boundOf(b.Lo)), sum(boundOf(a.Hi), boundOf(b.Hi))}.tightest()
}

func wantSub(a, b api.Interval) api.Interval {
	return reach{sum(boundOf(a.Lo), boundOf(b.Hi).times(-1)), sum(boundOf(a.Hi), boundOf(b.Lo).times(-1))}.tightest()
}
