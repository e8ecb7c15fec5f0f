package trig

import (
	"math"
	"math/big"
	"slices"
	"testing"

	"cusp/fixed"
	"cusp/natural"
)

const fine = 1500 // binary digits of bounds that stand for the number itself

// value is m times 2^-places.
func value(m []uint32, places int) *big.Rat {
	n := new(big.Int)
	for _, d := range slices.Backward(m) {
		n.Lsh(n, natural.Width).Or(n, big.NewInt(int64(d)))
	}
	return new(big.Rat).SetFrac(n, new(big.Int).Lsh(big.NewInt(1), uint(places)))
}

// holds tells whether bounds hold all of others.
func holds(b, exact fixed.Bounds) bool {
	return value(b.Lo, b.Places).Cmp(value(exact.Lo, exact.Places)) <= 0 && value(b.Hi, b.Places).Cmp(value(exact.Hi, exact.Places)) >= 0
}

func someFloats() []float64 {
	return []float64{0.5, -0.5, 0.785, -0.785, 1, 2, 3, -4, 5, 100.25, math.Pi, -math.Pi / 2, math.Nextafter(math.Pi/4, 1), 1e10, -1e22, 1e300, math.MaxFloat64, 0x1p-26, -0x1.8p-20, 6381956970095103 * 0x1p797}
}

// tellers are what tells more digits.
func tellers(t turn) []func(int) fixed.Bounds {
	return []func(int) fixed.Bounds{
		t.rest,
		func(bits int) fixed.Bounds { sine, _ := t.circle(bits); return sine },
		func(bits int) fixed.Bounds { _, cosine := t.circle(bits); return cosine },
		func(bits int) fixed.Bounds { sine, cosine := t.circle(bits); return sine.Over(cosine) },
		func(bits int) fixed.Bounds { sine, cosine := t.circle(bits); return cosine.Over(sine) },
	}
}

// TestBoundsHold: with however few digits, the number lies between the bounds, and these are as near to one another as it should be.
func TestBoundsHold(t *testing.T) {
	for _, x := range someFloats() {
		for i, tell := range tellers(turnOf(x)) {
			exact := tell(fine)
			for bits := 40; bits < 300; bits += 7 {
				b := tell(bits)
				if !holds(b, exact) {
					t.Errorf("%d of %x, %d bits: %x to %x do not hold it", i, x, bits, b.Lo, b.Hi)
				}
				// What is off comes from pi, and from the terms; 1 over a small sine is off by that over its square.
				apart, digits := natural.Length(natural.Sub(b.Hi, b.Lo)), natural.Length(b.Lo)
				if apart > 16+2*max(0, digits-b.Places) || digits < bits/2 {
					t.Errorf("%d of %x, %d bits: %x to %x", i, x, bits, b.Lo, b.Hi)
				}
			}
		}
	}
}

// TestSettledIsRight: what few digits settle, more settle alike; and few do not settle all.
func TestSettledIsRight(t *testing.T) {
	open := 0
	for i := range 60 {
		for k, tell := range tellers(turnOf(0.3 + float64(i)*1.7)) {
			if i == 0 && k == 0 {
				continue // the rest is a float there
			}
			want, sure := tell(fine).Tight()
			for bits := 56; bits < 72; bits++ {
				got, settled := tell(bits).Tight()
				if settled && got != want || !sure {
					t.Errorf("%d of number %d, %d bits: %x, want %x (%v)", k, i, bits, got, want, sure)
				}
				if !settled {
					open++
				}
			}
		}
	}
	if open < 100 {
		t.Errorf("only %d numbers were open", open)
	}
}

// TestRestNear: of a rest that few places can't tell from 0 more are taken.
func TestRestNear(t *testing.T) {
	near := turnOf(6381956970095103 * 0x1p797)
	if b := near.restAt(50); len(b.Lo) != 0 {
		t.Errorf("at 50 places %x to %x", b.Lo, b.Hi)
	}
	for bits := 20; bits < 130; bits += 10 {
		if b := near.rest(bits); natural.Length(b.Lo) <= bits/2 {
			t.Errorf("%d bits: %x to %x", bits, b.Lo, b.Hi)
		}
	}
}

// TestWavesHold: the sums of series in fractions lie between the bounds.
func TestWavesHold(t *testing.T) {
	for _, places := range []int{1, 2, 3, 5, 8, 20, 33, 64} {
		one := new(big.Int).Lsh(big.NewInt(1), uint(places))
		for _, part := range []int64{0, 1, 2, 17, 100, 128, 201, 255} {
			y := new(big.Int).Div(new(big.Int).Mul(one, big.NewInt(part)), big.NewInt(256))
			sums := [2]*big.Rat{big.NewRat(1, 1), new(big.Rat)}
			term := big.NewRat(1, 1)
			for n := int64(1); n < 50; n++ {
				term.Mul(term, new(big.Rat).SetFrac(y, new(big.Int).Mul(one, big.NewInt(n))))
				if n%4 >= 2 {
					sums[n%2].Sub(sums[n%2], term)
				} else {
					sums[n%2].Add(sums[n%2], term)
				}
			}
			sine, cosine := waves(natural.Of(y.Uint64()), places)
			// The rest of the sums is less than 2^-200.
			for i, b := range []fixed.Bounds{cosine, sine} {
				if b.Places != places || value(b.Lo, places).Cmp(sums[i]) > 0 || value(b.Hi, places).Cmp(sums[i]) <= 0 || natural.Length(natural.Sub(b.Hi, b.Lo)) > 9 {
					t.Errorf("%d: of %d at %d places: %x to %x, want %s", i, y, places, b.Lo, b.Hi, sums[i].FloatString(30))
				}
			}
		}
	}
}

// TestEighthsSettled: what few places settle, more settle alike; and few do not settle all.
func TestEighthsSettled(t *testing.T) {
	open := 0
	for _, x := range someFloats() {
		if math.Abs(x) < 0.7 {
			continue
		}
		want, sure := eighthsAt(x, fine)
		for places := 53; places < 128; places += 5 {
			got, settled := eighthsAt(x, places)
			if settled && natural.Cmp(got, want) != 0 || !sure {
				t.Errorf("of %x, %d places: %x, want %x (%v)", x, places, got, want, sure)
			}
			if !settled {
				open++
			}
		}
		if n := eighths(x); natural.Cmp(n, want) != 0 {
			t.Errorf("of %x: %x, want %x", x, n, want)
		}
	}
	if open < 3 {
		t.Errorf("only %d were open", open)
	}
}

// TestFloor: it is the whole number of quarter turns below x, of whatever size; of 0 it is 0.
func TestFloor(t *testing.T) {
	for _, row := range []struct {
		x    float64
		want int64
	}{{0, 0}, {math.Copysign(0, -1), 0}, {0.5, 0}, {-0.5, -1}, {2, 1}, {-2, -2}, {math.Pi, 1}, {math.Nextafter(math.Pi, 4), 2}, {-math.Pi, -2}, {100, 63}, {-100, -64}, {0x1p60, 733972625820500306}} {
		if floor(row.x) != uint64(row.want) {
			t.Errorf("of %v %d", row.x, int64(floor(row.x)))
		}
	}
	for _, x := range someFloats() {
		if floor(x)+floor(-x)+1 != 0 {
			t.Errorf("of %x %x, turned %x", x, floor(x), floor(-x))
		}
	}
}
