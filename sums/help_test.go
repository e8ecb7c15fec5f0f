package sums_test

import (
	"math"
	"math/big"
	"testing"

	"cusp/api"
)

const (
	least     = math.SmallestNonzeroFloat64 // 2^-1074
	greatest  = math.MaxFloat64
	topUnit   = 0x1p971 // the value of the greatest one's last bit
	afterOne  = 0x1.0000000000001p0
	beforeOne = 0x1.fffffffffffffp-1
)

var (
	inf       = math.Inf(1)
	nan       = math.NaN()
	minusZero = math.Copysign(0, -1)
	modes     = [3]int{api.Down, api.Near, api.Up}
)

// wrongModes are modes that are none.
func wrongModes() []int {
	return []int{0, 4, 5, -1, -2, -3, 1<<32 + 1, 1<<32 + 2, 1<<8 + 3, math.MaxInt, math.MinInt, math.MinInt + 1, math.MinInt + 3}
}

// nans are quiet and signalling ones, of both signs.
func nans() []float64 {
	var out []float64
	for _, b := range []uint64{0x7FF8000000000001, 0x7FF0000000000001, 0x7FFFFFFFFFFFFFFF, 0xFFF8000000000000, 0xFFF0000000000001} {
		out = append(out, math.Float64frombits(b))
	}
	return out
}

// edges are floats where rules change, each with both signs.
func edges() []float64 {
	var out []float64
	for _, f := range []float64{0, least, 3 * least, 0x1p-1022, 0x1p-537, 0x1p-54, 0x1p-53, beforeOne, 1, afterOne, 3, 0x1p53, 0x1p53 - 1, 1e100, 0x1p970, topUnit, 0x1p1023, greatest, inf} {
		out = append(out, f, math.Copysign(f, -1))
	}
	return append(out, nan)
}

// numbers makes floats by a rule.
type numbers struct{ seed uint64 }

func (r *numbers) word() uint64 {
	r.seed = r.seed*6364136223846793005 + 1442695040888963407
	return r.seed>>32 ^ r.seed<<32
}

func (r *numbers) below(n int) int { return int(r.word() >> 1 % uint64(n)) }

// float is finite: of any bits, near 1, of few binary digits, below the least normal one, or great.
func (r *numbers) float() float64 {
	sign := float64(1 - r.below(2)*2)
	m := math.Ldexp(float64(1<<52|r.word()>>12), -52)
	switch r.below(6) {
	case 0:
		return sign * math.Ldexp(m, r.below(2098)-1074)
	case 1:
		return sign * math.Ldexp(m, r.below(110)-55)
	case 2:
		return sign * math.Ldexp(float64(r.below(64)), r.below(110)-55)
	case 3:
		return sign * float64(r.word()>>(12+r.below(52))) * least
	case 4:
		return sign * math.Ldexp(m, 1020-r.below(3))
	}
	return sign * math.Ldexp(math.Ldexp(1, 53)-1-float64(r.below(3)), r.below(120)-113)
}

// list is of at most that many; some of them are taken back by others, so that sums cancel.
func (r *numbers) list(most int) []float64 {
	var out []float64
	for n := r.below(most + 1); len(out) < n; {
		if len(out) > 0 && r.below(3) == 0 {
			out = append(out, -out[r.below(len(out))])
		} else {
			out = append(out, r.float())
		}
	}
	return out
}

// mixed is a list in which floats that are not finite stand, too, here and there.
func (r *numbers) mixed(most int) []float64 {
	out := r.list(most)
	all := edges()
	for range r.below(3) {
		if len(out) > 0 {
			out[r.below(len(out))] = all[r.below(len(all))]
		}
	}
	return out
}

func (r *numbers) shuffled(l []float64) []float64 {
	out := append([]float64(nil), l...)
	for i := range out {
		j := i + r.below(len(out)-i)
		out[i], out[j] = out[j], out[i]
	}
	return out
}

// same tells whether two floats are alike as the document compares answers.
func same(a, b float64) bool {
	return math.Float64bits(a) == math.Float64bits(b) || a != a && b != b
}

func sameList(a, b []float64) bool {
	if len(a) != len(b) {
		return false
	}
	for i := range a {
		if !same(a[i], b[i]) {
			return false
		}
	}
	return true
}

func check(t *testing.T, got, want float64, what string, of ...any) {
	t.Helper()
	if !same(got, want) {
		t.Errorf("%s(%v) = %x, want %x", what, of, got, want)
	}
}

func checkWithError(t *testing.T, got float64, err api.Errno, want float64, wantErr api.Errno, what string, of ...any) {
	t.Helper()
	if !same(got, want) || err != wantErr {
		t.Errorf("%s(%v) = %x, %v; want %x, %v", what, of, got, err, want, wantErr)
	}
}

// wide is a number with so many binary digits that sums of many products of floats are exact.
func wide(f float64) *big.Float { return new(big.Float).SetPrec(5000).SetFloat64(f) }

func plus(a, b *big.Float) *big.Float  { return wide(0).Add(a, b) }
func times(a, b *big.Float) *big.Float { return wide(0).Mul(a, b) }

func sumOf(l []float64) *big.Float {
	sum := wide(0)
	for _, x := range l {
		sum = plus(sum, wide(x))
	}
	return sum
}

func dotOf(a, b []float64) *big.Float {
	sum := wide(0)
	for i := range a {
		sum = plus(sum, times(wide(a[i]), wide(b[i])))
	}
	return sum
}

// atRank is the float so many steps above 0.
func atRank(n int64) float64 {
	if n < 0 {
		return -math.Float64frombits(uint64(-n))
	}
	return math.Float64frombits(uint64(n))
}

// asNumber is a float as a number; an infinity is what would come after the greatest finite float.
func asNumber(f float64) *big.Float {
	if math.IsInf(f, 0) {
		return times(wide(math.Copysign(0x1p1023, f)), wide(2))
	}
	return wide(f)
}

// rounded is R of an exact value, looked for among all floats by what R says; +0 of 0.
func rounded(v *big.Float, mode int) float64 {
	low, high := int64(0), int64(0x7FF<<52)
	if v.Sign() < 0 {
		low, high = -high, low
	}
	for high-low > 1 {
		mid := low + (high-low)/2
		if wide(atRank(mid)).Cmp(v) <= 0 {
			low = mid
		} else {
			high = mid
		}
	}
	if f := atRank(low); !math.IsInf(f, 0) && wide(f).Cmp(v) == 0 {
		return f
	}
	n := low
	half := times(plus(asNumber(atRank(low)), asNumber(atRank(high))), wide(0.5))
	if c := half.Cmp(v); mode == api.Up || mode == api.Near && (c < 0 || c == 0 && low%2 != 0) {
		n = high
	}
	return math.Copysign(atRank(n), float64(v.Sign()))
}
