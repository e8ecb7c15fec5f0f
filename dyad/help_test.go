package dyad_test

import (
	"encoding/binary"
	"fmt"
	"math"
	"math/big"
	"slices"
	"testing"

	"cusp/api"
	"cusp/dyad"
)

const (
	least    = math.SmallestNonzeroFloat64 // 2^-1074
	greatest = math.MaxFloat64
	maxBits  = dyad.MaxBits
	maxExp   = dyad.MaxExp
)

var (
	inf       = math.Inf(1)
	minusZero = math.Copysign(0, -1)
	modes     = [3]int{api.Down, api.Near, api.Up}
)

// wrongModes are modes that are none.
func wrongModes() []int { return []int{0, 4, -1, -2, 1<<32 + 2, math.MaxInt, math.MinInt} }

// wrongPlaces are places that are none.
func wrongPlaces() []int {
	return []int{maxBits + 1, -maxBits - 1, 1 << 20, -1 << 20, math.MaxInt, math.MinInt}
}

// wrongNums are Nums that may not be, each for one reason.
func wrongNums() []dyad.Num {
	long := slices.Repeat([]uint32{math.MaxUint32}, maxBits/32)
	return []dyad.Num{
		{M: []uint32{2}},
		{M: []uint32{1 << 31}},
		{M: []uint32{0, 1}},
		{M: []uint32{1, 0}},
		{M: []uint32{0}},
		{M: []uint32{1}, E: maxExp + 1},
		{M: []uint32{1}, E: -maxExp - 1},
		{M: []uint32{1}, E: math.MaxInt},
		{M: []uint32{1}, E: math.MinInt},
		{M: append(slices.Clone(long), 1)},
		{Neg: true, M: append(slices.Clone(long), 1)},
		{Neg: true},
		{Neg: true, M: []uint32{}},
		{E: 1},
		{E: -1},
		{Neg: true, M: []uint32{6}, E: 3},
	}
}

// numbers makes numbers by a rule.
type numbers struct{ seed uint64 }

func (r *numbers) word() uint32 {
	r.seed = r.seed*6364136223846793005 + 1442695040888963407
	return uint32(r.seed >> 32)
}

func (r *numbers) below(n int) int { return int(uint64(r.word()) * uint64(n) >> 32) }

// num is a Num of at most that many binary digits, with E at most that far from 0; some have long rows of equal binary digits, where carries run far.
func (r *numbers) num(bits, exp int) dyad.Num {
	n := r.below(bits) + 1
	m := new(big.Int)
	switch r.below(4) {
	case 0:
		m.Sub(m.Lsh(big.NewInt(1), uint(n)), big.NewInt(1+2*int64(r.below(2))))
	case 1:
		m.Add(m.Lsh(big.NewInt(1), uint(n)), big.NewInt(1))
	default:
		for range n/32 + 1 {
			m.Or(m.Lsh(m, 32), big.NewInt(int64(r.word())))
		}
	}
	m.Rsh(m, uint(max(0, m.BitLen()-n)))
	if r.below(2) == 1 {
		m.Neg(m)
	}
	return ofBig(m, r.below(2*exp+1)-exp)
}

// positive is such a Num without its sign.
func (r *numbers) positive(bits, exp int) dyad.Num {
	a := r.num(bits, exp)
	a.Neg = false
	return a
}

// ofBig is m * 2^e in its one form, whether it may be or not.
func ofBig(m *big.Int, e int) dyad.Num {
	if m.Sign() == 0 {
		return dyad.Num{}
	}
	low := m.TrailingZeroBits()
	rest := new(big.Int).Rsh(new(big.Int).Abs(m), low)
	out := dyad.Num{Neg: m.Sign() < 0, E: e + int(low), M: make([]uint32, (rest.BitLen()+31)/32)}
	text := rest.FillBytes(make([]byte, 4*len(out.M)))
	for i := range out.M {
		out.M[i] = binary.BigEndian.Uint32(text[len(text)-4*i-4:])
	}
	return out
}

// toBig is a's M with its sign.
func toBig(a dyad.Num) *big.Int {
	var text []byte
	for _, d := range slices.Backward(a.M) {
		text = binary.BigEndian.AppendUint32(text, d)
	}
	m := new(big.Int).SetBytes(text)
	if a.Neg {
		m.Neg(m)
	}
	return m
}

// rat is a's value.
func rat(a dyad.Num) *big.Rat {
	r := new(big.Rat).SetInt(toBig(a))
	p := new(big.Rat).SetInt(new(big.Int).Lsh(big.NewInt(1), uint(max(a.E, -a.E))))
	if a.E < 0 {
		return r.Quo(r, p)
	}
	return r.Mul(r, p)
}

func ratOf(f float64) *big.Rat { return new(big.Rat).SetFloat64(f) }

// pow is 2^k, k any that may be.
func pow(k int) dyad.Num { return dyad.Num{M: []uint32{1}, E: k} }

// ones is 2^bits - 1, times 2^e.
func ones(bits, e int) dyad.Num {
	m := new(big.Int).Lsh(big.NewInt(1), uint(bits))
	return ofBig(m.Sub(m, big.NewInt(1)), e)
}

// gap is 2^bits + 1, times 2^e.
func gap(bits, e int) dyad.Num {
	m := new(big.Int).Lsh(big.NewInt(1), uint(bits))
	return ofBig(m.Add(m, big.NewInt(1)), e)
}

func minus(a dyad.Num) dyad.Num {
	return dyad.Num{Neg: !a.Neg && len(a.M) > 0, M: slices.Clone(a.M), E: a.E}
}

// of is a float's Num, by another way than dyad.Of.
func of(f float64) dyad.Num {
	r := ratOf(f)
	return ofBig(r.Num(), 1-r.Denom().BitLen())
}

func same(a, b dyad.Num) bool {
	return a.Neg == b.Neg && slices.Equal(a.M, b.M) && a.E == b.E
}

func sameFloat(a, b float64) bool { return math.Float64bits(a) == math.Float64bits(b) }

// brief shows a Num that may be or not.
func brief(a dyad.Num) string {
	if len(a.M) < 10 && dyad.Valid(a) {
		return dyad.Show(a)
	}
	return fmt.Sprint(len(a.M), " digits p", a.E)
}

func wantNum(t *testing.T, what string, got dyad.Num, err api.Errno, want dyad.Num) {
	t.Helper()
	if err != api.OK || !same(got, want) {
		t.Errorf("%s = %s, %v, want %s", what, brief(got), err, brief(want))
	}
}

func wantErr(t *testing.T, what string, got dyad.Num, err, want api.Errno) {
	t.Helper()
	if err != want || !same(got, dyad.Num{}) {
		t.Errorf("%s = %s, %v, want %v", what, brief(got), err, want)
	}
}

func wantFloat(t *testing.T, what string, got float64, err api.Errno, want float64) {
	t.Helper()
	if err != api.OK || !sameFloat(got, want) {
		t.Errorf("%s = %x, %v, want %x", what, got, err, want)
	}
}

func wantNoFloat(t *testing.T, what string, got float64, err, want api.Errno) {
	t.Helper()
	if err != want || !sameFloat(got, 0) {
		t.Errorf("%s = %x, %v, want %v", what, got, err, want)
	}
}

// edges are Nums at the bounds of what may be, and some everyday ones.
func edges() []dyad.Num {
	list := []dyad.Num{
		pow(0), pow(1), pow(-1), pow(maxExp), pow(-maxExp), ones(2, 0), ones(2, maxExp), ones(2, -maxExp),
		ones(maxBits, 0), ones(maxBits, maxExp), ones(maxBits, -maxExp), gap(maxBits-1, 0), gap(maxBits-1, maxExp), gap(maxBits-1, -maxExp),
		ones(32, 0), ones(33, 0), gap(32, 0), ones(64, -32), of(0.1), of(greatest), of(least), pow(1024), pow(-1075),
	}
	out := []dyad.Num{{}, {M: []uint32{}}}
	for _, a := range list {
		out = append(out, a, minus(a))
	}
	return out
}
