package arith_test

import (
	"math"
	"math/big"
	"testing"

	"cusp/api"
)

const (
	least       = math.SmallestNonzeroFloat64 // 2^-1074
	leastNormal = 0x1p-1022
	greatest    = math.MaxFloat64
	afterOne    = 0x1.0000000000001p0
	beforeOne   = 0x1.fffffffffffffp-1
)

var (
	inf       = math.Inf(1)
	nan       = math.NaN()
	minusZero = math.Copysign(0, -1)
	modes     = [3]int{api.Down, api.Near, api.Up}
	noValue   = complex(nan, nan)
)

// wrongModes are modes that are none.
func wrongModes() []int {
	return []int{0, 4, 5, -1, -2, -3, 1<<32 + 1, 1<<32 + 2, 1<<8 + 3, math.MaxInt, math.MinInt, math.MinInt + 1, math.MinInt + 3}
}

// notFinite are the infinities, and NaNs: quiet and signalling ones, of both signs.
func notFinite() []float64 {
	out := []float64{inf, -inf}
	for _, b := range []uint64{0x7FF8000000000001, 0x7FF0000000000001, 0xFFF8000000000000, 0xFFF0000000000001} {
		out = append(out, math.Float64frombits(b))
	}
	return out
}

func bothSigns(list ...float64) []float64 {
	var out []float64
	for _, f := range list {
		out = append(out, math.Copysign(f, 1), math.Copysign(f, -1))
	}
	return out
}

// corners are few finite floats where many rules change.
func corners() []float64 { return bothSigns(0, least, 0x1p-537, 1, afterOne, greatest) }

// edges are more floats, and those that are not finite.
func edges() []float64 {
	out := append(corners(), bothSigns(3*least, leastNormal, 0x1p-53, 0.1, beforeOne, 3, 0x1p53, 0x1p512, 0x1p970, 0x1p1023)...)
	return append(out, notFinite()...)
}

// pairs are all values with parts of a list.
func pairs(list []float64) []complex128 {
	var out []complex128
	for _, re := range list {
		for _, im := range list {
			out = append(out, complex(re, im))
		}
	}
	return out
}

// numbers makes floats by a rule.
type numbers struct{ seed uint64 }

func (r *numbers) word() uint64 {
	r.seed = r.seed*6364136223846793005 + 1442695040888963407
	return r.seed>>32 ^ r.seed<<32
}

func (r *numbers) below(n int) int { return int(r.word() >> 1 % uint64(n)) }

// float is finite: of any bits, near 1, of few binary digits, below the least normal one, or great.
func (r *numbers) float() float64 {
	sign := float64(1 - r.below(2)*2)
	m := math.Ldexp(float64(1<<52|r.word()>>12), -52)
	switch r.below(6) {
	case 0:
		return sign * math.Ldexp(m, r.below(2098)-1074)
	case 1, 2:
		return sign * math.Ldexp(m, r.below(110)-55)
	case 3:
		return sign * math.Ldexp(float64(r.below(64)), r.below(110)-55)
	case 4:
		return sign * float64(r.word()>>(12+r.below(52))) * least
	}
	return sign * math.Ldexp(m, 1023-r.below(3))
}

func (r *numbers) value() complex128 { return complex(r.float(), r.float()) }

// small has whole parts of so few digits that products of several are exact.
func (r *numbers) small() complex128 {
	return complex(float64(r.below(1<<12)-1<<11), float64(r.below(1<<12)-1<<11))
}

// beside is a value by which the first one comes to parts near 0 where they are multiplied.
func (r *numbers) beside(z complex128) complex128 {
	w := complex(imag(z), real(z))
	if r.below(2) == 0 {
		w = complex(real(z), -imag(z))
	}
	switch r.below(3) {
	case 0:
		return complex(math.Nextafter(real(w), inf), imag(w))
	case 1:
		return complex(real(w), math.Nextafter(imag(w), -inf))
	}
	return w
}

// same tells whether two floats are alike as the document compares answers.
func same(a, b float64) bool {
	return math.Float64bits(a) == math.Float64bits(b) || a != a && b != b
}

func alike(z, w complex128) bool { return same(real(z), real(w)) && same(imag(z), imag(w)) }

func check(t *testing.T, got, want complex128, what string, of ...any) {
	t.Helper()
	if !alike(got, want) {
		t.Errorf("%s(%x) = %x, want %x", what, of, got, want)
	}
}

func checkFloat(t *testing.T, got, want float64, what string, of ...any) {
	t.Helper()
	if !same(got, want) {
		t.Errorf("%s(%x) = %x, want %x", what, of, got, want)
	}
}

func exact(f float64) *big.Rat { return new(big.Rat).SetFloat64(f) }

func plus(a, b *big.Rat) *big.Rat  { return new(big.Rat).Add(a, b) }
func times(a, b *big.Rat) *big.Rat { return new(big.Rat).Mul(a, b) }

// rounded is R of a number that is not 0: the library's nearest float, or that one's neighbour where it lies on the wrong side.
func rounded(v *big.Rat, mode int) float64 {
	near, _ := v.Float64()
	far := 1 // how near stands to the number: an infinity is beyond it
	if near < 0 {
		far = -1
	}
	if !math.IsInf(near, 0) {
		far = exact(near).Cmp(v)
	}
	switch {
	case mode == api.Down && far > 0:
		return math.Nextafter(near, -inf)
	case mode == api.Up && far < 0:
		return math.Nextafter(near, inf)
	}
	return near
}

// wantSum is x*u + y*v over a number above 0, rounded, and the nought as the chapter's Rules say it.
func wantSum(x, u, y, v float64, over *big.Rat, mode int) float64 {
	sum := plus(times(exact(x), exact(u)), times(exact(y), exact(v)))
	if sum.Sign() != 0 {
		return rounded(sum.Quo(sum, over), mode)
	}
	return wantNought(x, u, y, v, mode)
}

func wantNought(x, u, y, v float64, mode int) float64 {
	zeros := (x == 0 || u == 0) && (y == 0 || v == 0)
	firstMinus, secondMinus := math.Signbit(x) != math.Signbit(u), math.Signbit(y) != math.Signbit(v)
	bothMinus := zeros && firstMinus && secondMinus
	bothPlus := zeros && !firstMinus && !secondMinus
	if bothMinus || mode == api.Down && !bothPlus {
		return minusZero
	}
	return 0
}

func finite(list ...complex128) bool {
	for _, z := range list {
		if real(z)-real(z) != 0 || imag(z)-imag(z) != 0 {
			return false
		}
	}
	return true
}

// wantMul is AR1's Mul, word by word.
func wantMul(a, b complex128, mode int) complex128 {
	if !finite(a, b) {
		return noValue
	}
	x, y, u, v := real(a), imag(a), real(b), imag(b)
	one := exact(1)
	return complex(wantSum(x, u, -y, v, one, mode), wantSum(x, v, y, u, one, mode))
}

// wantQuo is AR1's Quo, word by word.
func wantQuo(a, b complex128, mode int) complex128 {
	if !finite(a, b) || b == 0 {
		return noValue
	}
	x, y, u, v := real(a), imag(a), real(b), imag(b)
	square := plus(times(exact(u), exact(u)), times(exact(v), exact(v)))
	return complex(wantSum(x, u, y, v, square, mode), wantSum(y, u, -x, v, square, mode))
}
