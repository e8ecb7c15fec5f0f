package angle

import (
	"math"
	"math/big"
	"slices"
	"testing"

	"cusp/fixed"
	"cusp/natural"
)

const fine = 1500 // binary digits of bounds that stand for the number itself

// value is m times 2^-places.
func value(m []uint32, places int) *big.Rat {
	n := new(big.Int)
	for _, d := range slices.Backward(m) {
		n.Lsh(n, natural.Width).Or(n, big.NewInt(int64(d)))
	}
	return new(big.Rat).SetFrac(n, new(big.Int).Lsh(big.NewInt(1), uint(places)))
}

// holds tells whether bounds hold all from lo to hi.
func holds(b fixed.Bounds, lo, hi *big.Rat) bool {
	return value(b.Lo, b.Places).Cmp(lo) <= 0 && value(b.Hi, b.Places).Cmp(hi) >= 0
}

// someTurns are the angles of numbers on all sides of where the way changes, in both quarters.
func someTurns() []turn {
	var list []turn
	for _, y := range []float64{1, 0.5, 2, 0.3, 0.7, 1.3, 5, 1e10, 1e-10, 1e200, math.Nextafter(0.5, 1), math.Nextafter(2, 1), math.Nextafter(1, 2), 0x1p-52, math.MaxFloat64} {
		t := turnOf(aligned(1, y))
		list = append(list, t, t.mirrored())
	}
	return append(list, turnOf(nil, natural.Of(1)))
}

// tellers are what tells more digits.
func tellers() []func(int) fixed.Bounds {
	var list []func(int) fixed.Bounds
	for _, t := range someTurns() {
		list = append(list, t.told)
	}
	for _, x := range []float64{1, 0.5, 0.3, 0.9, math.Sqrt(0.5), 1 - 0x1p-53, 0x1p-26, 1e-5, 0.99999, 0.447} {
		list = append(list, func(bits int) fixed.Bounds { return arcsineAt(x, bits) })
	}
	return list
}

// TestBoundsHold: with however few digits, the number lies between the bounds, and these are as near to one another as it should be.
func TestBoundsHold(t *testing.T) {
	for i, tell := range tellers() {
		exact := tell(fine)
		lo, hi := value(exact.Lo, exact.Places), value(exact.Hi, exact.Places)
		for bits := 24; bits < 300; bits++ {
			b := tell(bits)
			if !holds(b, lo, hi) {
				t.Errorf("number %d, %d bits: %x to %x do not hold it", i, bits, b.Lo, b.Hi)
			}
			// Each term may lose two units; those of pi are taken 16 times, and up to four quarters of that.
			if apart := natural.Sub(b.Hi, b.Lo); natural.Length(apart) > 14 || natural.Length(b.Lo) < bits-2 {
				t.Errorf("number %d, %d bits: %x to %x", i, bits, b.Lo, b.Hi)
			}
		}
	}
}

// TestSettledIsRight: what few digits settle, more settle alike; and few do not settle all.
func TestSettledIsRight(t *testing.T) {
	open := 0
	for i, tell := range tellers() {
		want, sure := tell(fine).Tight()
		for bits := 56; bits < 72; bits++ {
			got, settled := tell(bits).Tight()
			if settled && got != want || !sure {
				t.Errorf("number %d, %d bits: %x, want %x (%v)", i, bits, got, want, sure)
			}
			if !settled {
				open++
			}
		}
	}
	if open < 50 {
		t.Errorf("only %d were open", open)
	}
}

// TestTurn: the rest's tangent is at most 1/2, and with the eighth turns that of the angle.
func TestTurn(t *testing.T) {
	half, one := big.NewRat(1, 2), big.NewRat(1, 1)
	for x := uint64(0); x < 12; x++ {
		for y := uint64(1); y < 12; y++ {
			a := turnOf(natural.Of(x), natural.Of(y))
			rest := new(big.Rat).Quo(value(a.p, 0), value(a.q, 0))
			if rest.Cmp(half) > 0 || a.eighths > 2 {
				t.Errorf("%d and %d: %d eighths and %s", x, y, a.eighths, rest)
			}
			if a.short {
				rest.Neg(rest)
			}
			p, q := rest, one // the sine and the cosine are as these are
			switch a.eighths {
			case 1:
				p, q = new(big.Rat).Add(one, rest), new(big.Rat).Sub(one, rest)
			case 2:
				p, q = one, new(big.Rat).Neg(rest)
			}
			if new(big.Rat).Mul(p, big.NewRat(int64(x), 1)).Cmp(new(big.Rat).Mul(q, big.NewRat(int64(y), 1))) != 0 {
				t.Errorf("%d and %d: %d eighths and %s", x, y, a.eighths, rest)
			}
			if b := a.mirrored(); b.eighths != 4-a.eighths || b.short == a.short || natural.Cmp(b.p, a.p) != 0 || natural.Cmp(b.q, a.q) != 0 {
				t.Errorf("%d and %d: %v, mirrored %v", x, y, a, b)
			}
		}
	}
}

// TestArctanHolds: the sum of Gregory's series in fractions lies between the bounds.
func TestArctanHolds(t *testing.T) {
	for q := int64(2); q < 40; q += 3 {
		for p := int64(0); 2*p <= q; p++ {
			sum, y := new(big.Rat), big.NewRat(p, q)
			power := new(big.Rat).Set(y)
			for n := int64(1); n < 120; n += 2 {
				sum.Add(sum, new(big.Rat).Mul(power, big.NewRat(1, n)))
				power.Mul(power, y).Mul(power, y)
				power.Neg(power)
			}
			for places := 1; places < 70; places += 1 + places/8 {
				b := arctan(natural.Of(uint64(p)), natural.Of(uint64(q)), places)
				// The rest of the sum is less than 2^-120.
				lo, hi := new(big.Rat).Sub(sum, value(natural.Of(1), 120)), new(big.Rat).Add(sum, value(natural.Of(1), 120))
				if value(b.Lo, places).Cmp(hi) > 0 || value(b.Hi, places).Cmp(lo) < 0 {
					t.Errorf("%d over %d, %d places: %x to %x", p, q, places, b.Lo, b.Hi)
				}
			}
		}
	}
}

func TestAligned(t *testing.T) {
	list := []float64{0, 1, 3, 0.1, math.SmallestNonzeroFloat64, math.MaxFloat64, 0x1p-1022}
	for _, f := range list {
		for _, g := range list {
			a, b := aligned(f, g)
			exactF, exactG := new(big.Rat).SetFloat64(f), new(big.Rat).SetFloat64(g)
			left, right := new(big.Rat).Mul(value(a, 0), exactG), new(big.Rat).Mul(value(b, 0), exactF)
			if left.Cmp(right) != 0 || (len(a) == 0) != (f == 0) || (len(b) == 0) != (g == 0) {
				t.Errorf("%x and %x: %x and %x", f, g, a, b)
			}
		}
	}
}
