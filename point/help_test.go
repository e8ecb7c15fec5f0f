package point_test

import (
	"math"
	"testing"

	"cusp/api"
)

const (
	least      = math.SmallestNonzeroFloat64
	greatest   = math.MaxFloat64
	least32    = math.SmallestNonzeroFloat32 // 2^-149
	greatest32 = math.MaxFloat32
)

var (
	inf       = math.Inf(1)
	nan       = math.NaN()
	minusZero = math.Copysign(0, -1)
	modes     = [3]int{api.Down, api.Near, api.Up}
)

// wrongModes are modes that are none.
func wrongModes() []int {
	return []int{0, 4, 5, -1, -2, -3, 1<<32 + 1, 1<<32 + 2, 1<<8 + 3, math.MaxInt, math.MinInt, math.MinInt + 1, math.MinInt + 3}
}

// nans are quiet and signalling ones, of both signs.
func nans() []float64 {
	var out []float64
	for _, b := range []uint64{0x7FF8000000000001, 0x7FF0000000000001, 0x7FFFFFFFFFFFFFFF, 0xFFF8000000000000, 0xFFF0000000000001} {
		out = append(out, math.Float64frombits(b))
	}
	return out
}

// edges are floats where rules change, each with both signs, and NaNs.
func edges() []float64 {
	var out []float64
	for _, f := range []float64{0, least, 0x1p-1022, least32, 0.1, 1, 1.5, 3, greatest32, greatest, inf} {
		out = append(out, f, math.Copysign(f, -1))
	}
	return append(out, nans()...)
}

// values are all pairs of edges.
func values() []complex128 {
	var out []complex128
	for _, re := range edges() {
		for _, im := range edges() {
			out = append(out, complex(re, im))
		}
	}
	return out
}

// numbers makes floats by a rule.
type numbers struct{ seed uint64 }

func (r *numbers) word() uint64 {
	r.seed = r.seed*6364136223846793005 + 1442695040888963407
	return r.seed>>32 ^ r.seed<<32
}

func (r *numbers) below(n int) int { return int(r.word() >> 1 % uint64(n)) }

// float is of any bits, or one that 32 bits nearly hold.
func (r *numbers) float() float64 {
	if r.below(3) == 0 {
		return math.Float64frombits(r.word())
	}
	sign := float64(1 - r.below(2)*2)
	m := math.Ldexp(float64(1<<52|r.word()>>12), -52)
	return sign * math.Ldexp(m, r.below(300)-160)
}

func (r *numbers) value() complex128 {
	all := edges()
	re, im := r.float(), r.float()
	switch r.below(6) {
	case 0:
		re = all[r.below(len(all))]
	case 1:
		im = all[r.below(len(all))]
	}
	return complex(re, im)
}

// same tells whether two floats are alike as the document compares answers.
func same(a, b float64) bool {
	return math.Float64bits(a) == math.Float64bits(b) || a != a && b != b
}

func alike(z, w complex128) bool { return same(real(z), real(w)) && same(imag(z), imag(w)) }

func check(t *testing.T, got, want complex128, what string, of ...any) {
	t.Helper()
	if !alike(got, want) {
		t.Errorf("%s(%v) = %v, want %v", what, of, got, want)
	}
}

func checkWithError(t *testing.T, got complex128, err api.Errno, want complex128, wantErr api.Errno, what string, of ...any) {
	t.Helper()
	if !alike(got, want) || err != wantErr {
		t.Errorf("%s(%.100v) = %v, %v; want %v, %v", what, of, got, err, want, wantErr)
	}
}

// turned is a float with its other sign.
func turned(f float64) float64 { return math.Float64frombits(math.Float64bits(f) ^ 1<<63) }
