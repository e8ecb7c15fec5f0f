package expo

import (
	"math"
	"slices"
	"testing"

	"cusp/api"
	"cusp/dyad"
)

const fine = 1500 // binary digits of bounds that stand for the number itself

// inner are functions by their bounds.
func inner() map[string]func(x float64, bits int) bounds {
	return map[string]func(x float64, bits int) bounds{
		"power":   func(x float64, bits int) bounds { b, _ := powers(x, bits); return b },
		"inverse": func(x float64, bits int) bounds { _, b := powers(x, bits); return b },
		"two":     powerOfTwo,
	}
}

func someFloats() []float64 {
	return []float64{1, -1, 0.1, -0.1, 2.5, -7.75, 30.3, -100.7, 709.1, -744.9, 1099.5, -1099.5, 1e-5, -1e-5, 0x1p-54, -0x1p-54, 0x1.fffffffffffffp-10, 0.9999999999999999, -1e-16, 1e300, -1e300}
}

// TestBoundsHold: with however few digits, the number lies between the bounds, and these are as near to one another as it should be.
func TestBoundsHold(t *testing.T) {
	for what, tell := range inner() {
		for _, x := range someFloats() {
			exact := tell(x, fine)
			for bits := 24; bits < 300; bits += 5 {
				b := tell(x, bits)
				if dyad.Cmp(b.lo, exact.lo) > 0 || dyad.Cmp(b.hi, exact.hi) < 0 {
					t.Errorf("%s of %x, %d bits: %s to %s do not hold it", what, x, bits, dyad.Show(b.lo), dyad.Show(b.hi))
				}
				// Each squaring, at most 19, makes twice as much of what was cut off.
				if apart := sum(b.hi, dyad.Neg(b.lo)); dyad.Sign(apart) != 0 && dyad.Top(apart) > dyad.Top(b.lo)-bits+28 {
					t.Errorf("%s of %x, %d bits: %s to %s are far apart", what, x, bits, dyad.Show(b.lo), dyad.Show(b.hi))
				}
			}
		}
	}
}

// TestSettledIsRight: what few digits settle, more settle alike; and few do not settle all.
func TestSettledIsRight(t *testing.T) {
	open := 0
	for what, tell := range inner() {
		for i := range 40 {
			x := 0.7 + float64(i)/11
			want, sure := tell(x, fine).tight()
			for bits := 56; bits < 72; bits++ {
				got, settled := tell(x, bits).tight()
				if settled && got != want || !sure {
					t.Errorf("%s of %x, %d bits: %x, want %x (%v)", what, x, bits, got, want, sure)
				}
				if !settled {
					open++
				}
			}
		}
	}
	if open < 100 {
		t.Errorf("only %d numbers were open", open)
	}
}

// off is f and so many halves, quarters, .. of the last unit.
func off(f float64, n, place int) dyad.Num {
	m, _ := dyad.Of(f)
	return sum(m, shift(dyad.Whole(n), -place))
}

func TestTightOnEdges(t *testing.T) {
	least, most, inf := math.SmallestNonzeroFloat64, math.MaxFloat64, math.Inf(1)
	for _, row := range []struct {
		b       bounds
		want    api.Interval
		settled bool
	}{
		{bounds{off(3, -1, 100), off(3, 1, 100)}, api.Interval{Lo: math.Nextafter(3, 0), Hi: math.Nextafter(3, 4)}, false},
		{bounds{off(3, 0, 0), off(3, 1, 100)}, api.Interval{Lo: 3, Hi: math.Nextafter(3, 4)}, true},
		{bounds{off(3, -1, 100), off(3, 0, 0)}, api.Interval{Lo: math.Nextafter(3, 0), Hi: 3}, true},
		{bounds{off(3, 1, 100), off(3, 2, 100)}, api.Interval{Lo: 3, Hi: math.Nextafter(3, 4)}, true},
		{bounds{off(-1, 1, 60), off(-1, 1, 58)}, api.Interval{Lo: -1, Hi: math.Nextafter(-1, 0)}, true},
		{exactly(off(3, 0, 0)), api.Interval{Lo: 3, Hi: 3}, true},
		{exactly(off(3, 1, 100)), api.Interval{Lo: 3, Hi: math.Nextafter(3, 4)}, true},
		{exactly(off(0, 1, 1075)), api.Interval{Lo: 0, Hi: least}, true},
		{bounds{off(0, 1, 1080), off(0, 1, 1079)}, api.Interval{Lo: 0, Hi: least}, true},
		{bounds{off(0, -1, 1079), off(0, -1, 1080)}, api.Interval{Lo: -least, Hi: 0}, true},
		{bounds{off(0, -1, 1079), off(0, 1, 1079)}, api.Interval{Lo: -least, Hi: least}, false},
		{bounds{off(most, 1, 0), off(most, 2, 0)}, api.Interval{Lo: most, Hi: inf}, true},
		{bounds{off(most, -1, 0), off(most, 2, 0)}, api.Interval{Lo: math.Nextafter(most, 0), Hi: inf}, false},
		{bounds{off(-most, -2, 0), off(-most, -1, 0)}, api.Interval{Lo: -inf, Hi: -most}, true},
	} {
		s, settled := row.b.tight()
		if s != row.want || settled != row.settled || math.Signbit(s.Lo) && s.Lo == 0 || math.Signbit(s.Hi) && s.Hi == 0 {
			t.Errorf("%s to %s: %x, %v, want %x, %v", dyad.Show(row.b.lo), dyad.Show(row.b.hi), s, settled, row.want, row.settled)
		}
	}
}

// TestTightAsksOn: digits are asked for till they settle the number, and no further.
func TestTightAsksOn(t *testing.T) {
	var asked []int
	s := tight(func(bits int) bounds {
		asked = append(asked, bits)
		// 1 and a little, which these digits can't tell from 1 till there are enough of them.
		return bounds{lo: sum(off(1, 1, 700), shift(dyad.Whole(-1), -bits)), hi: sum(off(1, 1, 700), shift(dyad.Whole(1), -bits))}
	})
	if s != (api.Interval{Lo: 1, Hi: 1 + 0x1p-52}) || !slices.Equal(asked, []int{128, 256, 512, 1024}) {
		t.Errorf("%x, asked %v", s, asked)
	}
}

// TestLogOfTwo: the logarithm of two lies between its bounds, e to them being on both sides of 2; also where there are no more digits of it.
func TestLogOfTwo(t *testing.T) {
	two := dyad.Whole(2)
	for _, bits := range []int{30, 100, 128, 129, 256, 512, 2990, 3000, 4000} {
		b := logOfTwo(bits)
		lo, hi := exponential(b.lo, bits+100), exponential(b.hi, bits+100)
		if dyad.Cmp(lo.hi, two) >= 0 || dyad.Cmp(hi.lo, two) <= 0 {
			t.Errorf("%d bits: %s to %s", bits, dyad.Show(b.lo), dyad.Show(b.hi))
		}
		if apart := sum(b.hi, dyad.Neg(b.lo)); dyad.Top(apart) > 3-min(bits, 3000) {
			t.Errorf("%d bits: %s apart", bits, dyad.Show(apart))
		}
	}
}

// TestOperationsHold: a square, an inverse, a quotient lies between its bounds, one unit of its last digit apart, or is told exactly.
func TestOperationsHold(t *testing.T) {
	for n := 1; n < 200; n++ {
		for _, bits := range []int{1, 2, 5, 8, 40} {
			a := shift(dyad.Whole(n), -n%11)
			square, inverse := exactly(a).squared(bits), exactly(a).inverse(bits)
			checkAround(t, square, product(a, a), bits)
			checkAround(t, inverse.times(a), dyad.Whole(1), bits)
			checkAround(t, quotient(dyad.Whole(7), a, bits).times(a), dyad.Whole(7), bits+3-dyad.Top(a))
		}
	}
}

func checkAround(t *testing.T, b bounds, exact dyad.Num, bits int) {
	t.Helper()
	low, high := dyad.Cmp(b.lo, exact), dyad.Cmp(b.hi, exact)
	if low > 0 || high < 0 || (low == 0) != (high == 0) {
		t.Errorf("%s to %s do not hold %s", dyad.Show(b.lo), dyad.Show(b.hi), dyad.Show(exact))
	}
	if apart := sum(b.hi, dyad.Neg(b.lo)); dyad.Sign(apart) != 0 && dyad.Top(apart) > dyad.Top(exact)-bits+1 {
		t.Errorf("%s to %s are far apart, for %d bits", dyad.Show(b.lo), dyad.Show(b.hi), bits)
	}
}
