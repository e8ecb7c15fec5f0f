package decim_test

import (
	"math"
	"math/big"
	"strings"
	"testing"

	"cusp/api"
	"cusp/decim"
)

const (
	least       = math.SmallestNonzeroFloat64 // 2^-1074
	leastNormal = 0x1p-1022
	topSmall    = leastNormal - least
	greatest    = math.MaxFloat64
	beforeTop   = 0x1.ffffffffffffep1023 // the float below the greatest one
	mostDigits  = api.MaxDigits
)

var (
	inf       = math.Inf(1)
	nan       = math.NaN()
	minusZero = math.Copysign(0, -1)
	modes     = [3]int{api.Down, api.Near, api.Up}
)

// wrongModes are modes that are none.
func wrongModes() []int {
	return []int{0, 4, 5, -1, -2, -3, 1<<32 + 1, 1<<32 + 2, 1<<8 + 3, math.MaxInt, math.MinInt, math.MinInt + 2}
}

// nans are quiet and signalling ones, of both signs.
func nans() []float64 {
	var out []float64
	for _, b := range []uint64{0x7FF8000000000001, 0x7FF0000000000001, 0x7FFFFFFFFFFFFFFF, 0xFFF8000000000000, 0xFFF0000000000001} {
		out = append(out, math.Float64frombits(b))
	}
	return out
}

// edges are finite floats where rules change, each with both signs.
func edges() []float64 {
	list := []float64{
		0, least, 2 * least, 3 * least, 5 * least, topSmall, leastNormal, leastNormal + least, 2 * leastNormal, 0x1p-1021 - least,
		1e-300, 1e-7, 9.5e-7, 9.999999999999999e-7, 1e-6, 1.0000000000000002e-6, 9.999999999999999e-6, 1e-5, 1.2e-5, 0.001, 0.1, 0.3, 1.0 / 3, 0.5, 0x1p-44, 0.95, 0.99, 0.995, 0.9999999999999999, 1, 1.0000000000000002,
		1.5, 2, 2.5, 3, 3.5, 5, 9, 9.5, 9.99, 10, 10.5, 99.5, 100, 123.456, 999.5, 1e15, 1e16, 0x1p50 + 0.25, 0x1p50 + 0.75, 0x1p53 - 1, 0x1p53, 0x1p53 + 2, 0x1p54, 0x1p63, 0x1p64,
		1e20, 123456789012345680000, 999999999999999868928, 1e21, 1.0000000000000002e21, 1e22, 1e23, 9.999999999999999e22, 9007199254740993e5, 1e100, 5e-324, 2.2250738585072011e-308, 1.7976931348623157e308, beforeTop, 0x1p1023, greatest,
	}
	for k := -323; k <= 308; k += 13 {
		list = append(list, math.Pow10(k))
	}
	for e := -1074; e <= 1023; e += 17 {
		p := math.Ldexp(1, e)
		list = append(list, p, math.Nextafter(p, inf), math.Nextafter(p, 0))
	}
	var out []float64
	for _, f := range list {
		out = append(out, f, -f)
	}
	return append(out, minusZero)
}

// numbers makes numbers by a rule.
type numbers struct{ seed uint64 }

func (r *numbers) word() uint32 {
	r.seed = r.seed*6364136223846793005 + 1442695040888963407
	return uint32(r.seed >> 32)
}

func (r *numbers) below(n int) int { return int(uint64(r.word()) * uint64(n) >> 32) }

// float is a finite one: of any exponent, or near 1, or a whole number, or a decimal with few digits.
func (r *numbers) float() float64 {
	bits := uint64(r.word())<<32 | uint64(r.word())
	switch r.below(5) {
	case 0:
		return math.Float64frombits(bits&^(uint64(0x7FF)<<52) | uint64(1003+r.below(40))<<52)
	case 1:
		return float64(int64(bits) >> r.below(64))
	case 2:
		return float64(int64(bits)>>(12+r.below(50))) / math.Pow10(r.below(23))
	case 3:
		return float64(int64(bits)>>(44+r.below(20))) * least
	}
	f := math.Float64frombits(bits)
	if f-f != 0 {
		return r.float()
	}
	return f
}

// text is n digits out of the given ones.
func (r *numbers) text(n int, digits string) string {
	var b strings.Builder
	for range n {
		b.WriteByte(digits[r.below(len(digits))])
	}
	return b.String()
}

func ratOf(f float64) *big.Rat { return new(big.Rat).SetFloat64(f) }

// powRat is base^k.
func powRat(base, k int) *big.Rat {
	p := new(big.Int).Exp(big.NewInt(int64(base)), big.NewInt(int64(max(k, -k))), nil)
	if k < 0 {
		return new(big.Rat).SetFrac(big.NewInt(1), p)
	}
	return new(big.Rat).SetInt(p)
}

// rounded is R(x, mode), of an x that is not 0: the nearest float, and from there by steps.
func rounded(x *big.Rat, mode int) float64 {
	f, _ := x.Float64()
	switch {
	case mode == api.Down && above(f, x):
		f = math.Nextafter(f, -inf)
	case mode == api.Up && above(-f, new(big.Rat).Neg(x)):
		f = math.Nextafter(f, inf)
	}
	return math.Copysign(f, float64(x.Sign()))
}

// above tells whether the float f, that may be an infinity, is above x.
func above(f float64, x *big.Rat) bool {
	if math.IsInf(f, 0) {
		return f > 0
	}
	return ratOf(f).Cmp(x) > 0
}

// wholeRat is x rounded to a whole number.
func wholeRat(x *big.Rat, mode int) *big.Int {
	n, rest := new(big.Int).DivMod(x.Num(), x.Denom(), new(big.Int))
	half := new(big.Int).Lsh(rest, 1).Cmp(x.Denom())
	if rest.Sign() != 0 && (mode == api.Up || mode == api.Near && (half > 0 || half == 0 && n.Bit(0) == 1)) {
		n.Add(n, big.NewInt(1))
	}
	return n
}

func same(a, b float64) bool {
	return math.Float64bits(a) == math.Float64bits(b) || a != a && b != b
}

func wantRead(t *testing.T, s string, mode int, want float64) {
	t.Helper()
	got, err := decim.Read(s, mode)
	if err != api.OK || !same(got, want) {
		t.Errorf("Read(%.60q (%d), %d) = %x, %v, want %x", s, len(s), mode, got, err, want)
	}
}

func wantReadErr(t *testing.T, s string, mode int, want api.Errno) {
	t.Helper()
	got, err := decim.Read(s, mode)
	if err != want || !same(got, 0) {
		t.Errorf("Read(%.60q (%d), %d) = %x, %v, want %v", s, len(s), mode, got, err, want)
	}
}

func wantText(t *testing.T, what string, f float64, got, want string) {
	t.Helper()
	if got != want {
		t.Errorf("%s(%x) = %.80q (%d), want %.80q (%d)", what, f, got, len(got), want, len(want))
	}
}

func fixed(t *testing.T, f float64, places, mode int) string {
	t.Helper()
	s, err := decim.Fixed(f, places, mode)
	if err != api.OK {
		t.Errorf("Fixed(%x, %d, %d): %v", f, places, mode, err)
	}
	return s
}

func digits(t *testing.T, f float64, n, mode int) string {
	t.Helper()
	s, err := decim.Digits(f, n, mode)
	if err != api.OK {
		t.Errorf("Digits(%x, %d, %d): %v", f, n, mode, err)
	}
	return s
}

// signed puts f's sign ahead of a text.
func signed(f float64, s string) string {
	if math.Signbit(f) {
		return "-" + s
	}
	return s
}
