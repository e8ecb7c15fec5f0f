package loga

import (
	"math"
	"math/big"
	"slices"
	"testing"

	"cusp/fixed"
	"cusp/natural"
)

const fine = 1500 // binary digits of bounds that stand for the number itself

// value is m times 2^-places.
func value(m []uint32, places int) *big.Rat {
	n := new(big.Int)
	for _, d := range slices.Backward(m) {
		n.Lsh(n, natural.Width).Or(n, big.NewInt(int64(d)))
	}
	return new(big.Rat).SetFrac(n, new(big.Int).Lsh(big.NewInt(1), uint(places)))
}

func someFloats() []float64 {
	return []float64{2, 3, 0.1, 1.5, 0.75, math.Nextafter(1.5, 0), math.Nextafter(0.75, 0), 1 + 0x1p-52, 1 - 0x1p-53, math.MaxFloat64, math.SmallestNonzeroFloat64, 4, 0.25, 1.25, 0.9, 2.9, 3.1, 1e10, 1e-300, 0.7}
}

// tellers are what tells more digits.
func tellers(s split) []func(int) fixed.Bounds {
	return []func(int) fixed.Bounds{s.logarithm, s.halfLogarithm, s.toTwo}
}

// TestBoundsHold: with however few digits, the number lies between the bounds, and these are as near to one another as it should be.
func TestBoundsHold(t *testing.T) {
	for _, x := range someFloats() {
		for i, tell := range tellers(splitOf(exactly(x))) {
			exact := tell(fine)
			lo, hi := value(exact.Lo, exact.Places), value(exact.Hi, exact.Places)
			for bits := 24; bits < 300; bits += 5 {
				b := tell(bits)
				if value(b.Lo, b.Places).Cmp(lo) > 0 || value(b.Hi, b.Places).Cmp(hi) < 0 {
					t.Errorf("%d of %x, %d bits: %x to %x do not hold it", i, x, bits, b.Lo, b.Hi)
				}
				// Each term may lose two units; the whole part of a logarithm multiplies what that of 2 has lost.
				if apart := natural.Sub(b.Hi, b.Lo); natural.Length(apart) > 10+natural.Length(natural.Of(uint64(max(1, math.Abs(math.Log2(x)))))) || natural.Length(b.Lo) < bits-3 {
					t.Errorf("%d of %x, %d bits: %x to %x", i, x, bits, b.Lo, b.Hi)
				}
			}
		}
	}
}

// TestSettledIsRight: what few digits settle, more settle alike; and few do not settle all.
func TestSettledIsRight(t *testing.T) {
	open := 0
	for i := range 60 {
		for k, tell := range tellers(splitOf(exactly(0.3 + float64(i)/11))) {
			want, sure := tell(fine).Tight()
			for bits := 56; bits < 72; bits++ {
				got, settled := tell(bits).Tight()
				if settled && got != want || !sure {
					t.Errorf("%d of number %d, %d bits: %x, want %x (%v)", k, i, bits, got, want, sure)
				}
				if !settled {
					open++
				}
			}
		}
	}
	if open < 100 {
		t.Errorf("only %d numbers were open", open)
	}
}

// TestSplit: a number is its parts put together, and these are as they should be.
func TestSplit(t *testing.T) {
	for _, x := range someFloats() {
		s := splitOf(exactly(x))
		y := new(big.Rat).Quo(value(s.off, 0), value(s.sum, 0))
		if y.Cmp(big.NewRat(1, 5)) > 0 {
			t.Errorf("%x: %s", x, y)
		}
		if s.below {
			y.Neg(y)
		}
		near, _ := new(big.Rat).Quo(new(big.Rat).Add(big.NewRat(1, 1), y), new(big.Rat).Sub(big.NewRat(1, 1), y)).Float64()
		if math.Ldexp(near, s.whole) != x || near < 0.75 || near > 1.5 || s.isPower() != (near == 1) {
			t.Errorf("%x is 2^%d times %x (%v)", x, s.whole, near, s.isPower())
		}
	}
}

// TestArtanhHolds: the sum of a series in fractions lies between the bounds.
func TestArtanhHolds(t *testing.T) {
	for q := int64(3); q < 40; q += 4 {
		for p := int64(0); 3*p <= q; p++ {
			sum, y := new(big.Rat), big.NewRat(p, q)
			power := new(big.Rat).Set(y)
			for n := int64(1); n < 120; n += 2 {
				sum.Add(sum, new(big.Rat).Mul(power, big.NewRat(1, n)))
				power.Mul(power, y).Mul(power, y)
			}
			for _, places := range []int{1, 2, 3, 5, 8, 20, 33, 64} {
				b := artanh(natural.Of(uint64(p)), natural.Of(uint64(q)), places)
				// The rest of the sum is less than 2^-180.
				if value(b.Lo, places).Cmp(sum) > 0 || value(b.Hi, places).Cmp(sum) <= 0 {
					t.Errorf("%d / %d at %d places: %x to %x", p, q, places, b.Lo, b.Hi)
				}
			}
		}
	}
}
