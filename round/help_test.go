package round_test

import (
	"math"
	"math/big"
	"testing"

	"cusp/api"
)

const (
	least       = math.SmallestNonzeroFloat64 // 2^-1074
	leastNormal = 0x1p-1022
	topSmall    = leastNormal - least
	greatest    = math.MaxFloat64
	beforeTop   = 0x1.ffffffffffffep1023 // the float below the greatest one
	topUnit     = 0x1p971                // the value of the greatest one's last bit
	afterOne    = 0x1.0000000000001p0
	beforeOne   = 0x1.fffffffffffffp-1
)

var (
	inf       = math.Inf(1)
	nan       = math.NaN()
	minusZero = math.Copysign(0, -1)
	modes     = [3]int{api.Down, api.Near, api.Up}
)

// otherWay is the mode that rounds as mode does where all signs are turned.
func otherWay(mode int) int { return api.Down + api.Up - mode }

// wrongModes are modes that are none.
func wrongModes() []int {
	return []int{0, 4, 5, -1, -2, -3, 1<<32 + 1, 1<<32 + 2, 1<<8 + 3, math.MaxInt, math.MinInt, math.MinInt + 1, math.MinInt + 3}
}

// nans are quiet and signalling ones, of both signs.
func nans() []float64 {
	var out []float64
	for _, b := range []uint64{0x7FF8000000000001, 0x7FF0000000000001, 0x7FFFFFFFFFFFFFFF, 0xFFF8000000000000, 0xFFF0000000000001} {
		out = append(out, math.Float64frombits(b))
	}
	return out
}

// corners are few floats where many rules change, each with both signs.
func corners() []float64 {
	return bothSigns(0, least, 3*least, leastNormal, 0x1p-537, 0x1p-53, 0.5, beforeOne, 1, afterOne, 3, 0x1p53, 0x1p512, 0x1p970, 0x1p1023, greatest, inf)
}

// edges are more of them.
func edges() []float64 {
	return append(corners(), bothSigns(
		2*least, 5*least, topSmall, leastNormal+least, 2*leastNormal-least, 0x1p-538, 0x1.6a09e667f3bcdp-538, 0x1p-1021,
		0x1p-54, 0x1.0000000000001p-53, 0x1.fffffffffffffp-54, 0x1p-52, 0.1, 1.0/3, 1.5, 2, 2.5, 5, 7, 10,
		0x1p26+1, 0x1p27+1, 0x1p52, 0x1p52-0.5, 0x1p52+1, 0x1p53-1, 0x1p53+2, 1e100,
		0x1p511, 0x1.fffffffffffffp511, 0x1.6a09e667f3bccp511, 0x1p969, 0x1p971, 0x1.8p970, beforeTop)...)
}

func bothSigns(list ...float64) []float64 {
	var out []float64
	for _, f := range list {
		out = append(out, f, -f)
	}
	for i, f := range out {
		if f == 0 {
			out[i] = math.Copysign(0, float64(1-i%2*2))
		}
	}
	return out
}

// numbers makes floats by a rule.
type numbers struct{ seed uint64 }

func (r *numbers) word() uint64 {
	r.seed = r.seed*6364136223846793005 + 1442695040888963407
	return r.seed>>32 ^ r.seed<<32
}

func (r *numbers) below(n int) int { return int(r.word() >> 1 % uint64(n)) }

// float is finite: of any bits, near 1, of few binary digits, below the least normal one, or great.
func (r *numbers) float() float64 {
	sign := float64(1 - r.below(2)*2)
	m := math.Ldexp(float64(1<<52|r.word()>>12), -52)
	switch r.below(6) {
	case 0:
		return sign * math.Ldexp(m, r.below(2098)-1074)
	case 1:
		return sign * math.Ldexp(m, r.below(110)-55)
	case 2:
		return sign * math.Ldexp(float64(r.below(64)), r.below(110)-55)
	case 3:
		return sign * float64(r.word()>>(12+r.below(52))) * least
	case 4:
		return sign * math.Ldexp(m, 1023-r.below(3))
	}
	return sign * math.Ldexp(math.Ldexp(1, 53)-1-float64(r.below(3)), r.below(120)-113)
}

// same tells whether two floats are alike as the document compares answers.
func same(a, b float64) bool {
	return math.Float64bits(a) == math.Float64bits(b) || a != a && b != b
}

func check(t *testing.T, got, want float64, what string, mode int, of ...float64) {
	t.Helper()
	if !same(got, want) {
		t.Errorf("%s(%x, mode %d) = %x, want %x", what, of, mode, got, want)
	}
}

// byMode is what is asked for in each mode.
type byMode struct{ down, near, up float64 }

func all(f float64) byMode { return byMode{f, f, f} }

func (w byMode) in(mode int) float64 {
	return [...]float64{api.Down: w.down, api.Near: w.near, api.Up: w.up}[mode]
}

// against tells how a number stands to an exact value: -1: below it, 0: it is it, 1: above it.
type against func(x *big.Float) int

// wide is a number with so many binary digits that sums and products of three floats are exact.
func wide(f float64) *big.Float { return new(big.Float).SetPrec(8000).SetFloat64(f) }

func plus(a, b *big.Float) *big.Float  { return wide(0).Add(a, b) }
func times(a, b *big.Float) *big.Float { return wide(0).Mul(a, b) }

func number(v *big.Float) against { return func(x *big.Float) int { return x.Cmp(v) } }

func quotient(a, b float64) against {
	return func(x *big.Float) int { return times(x, wide(b)).Cmp(wide(a)) * wide(b).Sign() }
}

func rootOf(square *big.Float) against {
	return func(x *big.Float) int {
		if x.Sign() < 0 {
			return -1
		}
		return times(x, x).Cmp(square)
	}
}

// atRank is the float so many steps above 0.
func atRank(n int64) float64 {
	if n < 0 {
		return -math.Float64frombits(uint64(-n))
	}
	return math.Float64frombits(uint64(n))
}

// asNumber is a float as a number; an infinity is what would come after the greatest finite float.
func asNumber(f float64) *big.Float {
	if math.IsInf(f, 0) {
		return times(wide(math.Copysign(0x1p1023, f)), wide(2))
	}
	return wide(f)
}

// rounded is R of an exact value that is not 0, looked for among all floats by what R says.
func rounded(v against, mode int) float64 {
	low, high := int64(0), int64(0x7FF<<52)
	if v(wide(0)) > 0 {
		low, high = -high, low
	}
	for high-low > 1 {
		mid := low + (high-low)/2
		if v(wide(atRank(mid))) <= 0 {
			low = mid
		} else {
			high = mid
		}
	}
	if f := atRank(low); !math.IsInf(f, 0) && v(wide(f)) == 0 {
		return f
	}
	n := low
	half := times(plus(asNumber(atRank(low)), asNumber(atRank(high))), wide(0.5))
	if c := v(half); mode == api.Up || mode == api.Near && (c < 0 || c == 0 && low%2 != 0) {
		n = high
	}
	return math.Copysign(atRank(n), float64(-v(wide(0))))
}

func finite(list ...float64) bool {
	for _, f := range list {
		if math.IsInf(f, 0) || math.IsNaN(f) {
			return false
		}
	}
	return true
}
