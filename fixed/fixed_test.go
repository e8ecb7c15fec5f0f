package fixed_test

import (
	"math"
	"math/big"
	"slices"
	"testing"

	"cusp/api"
	"cusp/fixed"
	"cusp/natural"
)

const least = math.SmallestNonzeroFloat64

func value(m []uint32, places int) *big.Rat {
	n := new(big.Int)
	for _, d := range slices.Backward(m) {
		n.Lsh(n, natural.Width).Or(n, big.NewInt(int64(d)))
	}
	return new(big.Rat).SetFrac(n, new(big.Int).Lsh(big.NewInt(1), uint(places)))
}

// check holds bounds against those that are asked for.
func check(t *testing.T, what string, b fixed.Bounds, lo, hi *big.Rat) {
	t.Helper()
	if gotLo, gotHi := value(b.Lo, b.Places), value(b.Hi, b.Places); gotLo.Cmp(lo) != 0 || gotHi.Cmp(hi) != 0 {
		t.Errorf("%s: %s to %s, want %s to %s", what, gotLo, gotHi, lo, hi)
	}
}

func rat(p, q int64) *big.Rat { return big.NewRat(p, q) }

func TestWholeAndShort(t *testing.T) {
	for _, n := range []uint64{0, 1, 3, 1 << 32, 1<<53 + 1} {
		check(t, "Whole", fixed.Whole(n, 40), rat(int64(n), 1), rat(int64(n), 1))
		check(t, "Short", fixed.Short(natural.Of(n), 7, 5), rat(int64(n), 32), rat(int64(n)+7, 32))
	}
}

func TestOperations(t *testing.T) {
	for p := int64(20); p < 60; p += 3 {
		for q := int64(1); q < 20; q += 2 {
			b, c := fixed.Short(natural.Of(uint64(p)), 5, 4), fixed.Short(natural.Of(uint64(q)), 1, 4)
			check(t, "Plus", b.Plus(c), rat(p+q, 16), rat(p+q+6, 16))
			check(t, "Minus", b.Minus(c), rat(p-q-1, 16), rat(p-q+5, 16))
			check(t, "Times", b.Times(uint64(q)), rat(p*q, 16), rat((p+5)*q, 16))
			check(t, "Halved", b.Halved(), rat(p, 32), rat(p+5, 32))
			check(t, "Over", b.Over(c), rat(p*16/(q+1), 16), rat((p+5)*16/q+1, 16))
			if over := b.Over(c); over.Places != 4 || b.Plus(c).Places != 4 || b.Minus(c).Places != 4 || b.Times(2).Places != 4 {
				t.Errorf("%v has other places", over)
			}
		}
	}
}

// TestMinusNearNought: the difference of numbers that are nearly alike is not below 0.
func TestMinusNearNought(t *testing.T) {
	b, c := fixed.Short(natural.Of(20), 5, 4), fixed.Short(natural.Of(22), 2, 4)
	check(t, "Minus", b.Minus(c), rat(0, 1), rat(3, 16))
	check(t, "Minus", c.Minus(b), rat(0, 1), rat(4, 16))
	check(t, "Minus", b.Minus(b), rat(0, 1), rat(5, 16))
	check(t, "Minus", fixed.Whole(3, 4).Minus(fixed.Whole(3, 4)), rat(0, 1), rat(0, 1))
}

func TestTimesLong(t *testing.T) {
	long := natural.Left(natural.Of(5), 90)
	want := new(big.Rat).SetInt(new(big.Int).Lsh(big.NewInt(5), 90))
	check(t, "TimesLong", fixed.Short(natural.Of(16), 32, 4).TimesLong(long), want, new(big.Rat).Mul(want, rat(3, 1)))
	check(t, "TimesLong", fixed.Short(natural.Of(16), 32, 4).TimesLong(nil), rat(0, 1), rat(0, 1))
}

func TestCut(t *testing.T) {
	b := fixed.Short(natural.Of(1000), 77, 10)
	for places := range 11 {
		drop := int64(1) << (10 - places)
		cut := b.Cut(places)
		check(t, "Cut", cut, rat(1000/drop, 1<<places), rat(1077/drop+1, 1<<places))
		if cut.Places != places {
			t.Errorf("%d places, want %d", cut.Places, places)
		}
	}
}

// beside is 2^k and n times 2^-places.
func beside(k, n, places int) []uint32 {
	m := natural.Left(natural.Of(1), k+places)
	if n < 0 {
		return natural.Sub(m, natural.Of(uint64(-n)))
	}
	return natural.Add(m, natural.Of(uint64(n)))
}

func TestTight(t *testing.T) {
	next := func(lo float64) api.Interval { return api.Interval{Lo: lo, Hi: math.Nextafter(lo, math.Inf(1))} }
	for _, row := range []struct {
		lo, hi  []uint32
		places  int
		want    api.Interval
		settled bool
	}{
		{beside(1, 1, 100), beside(1, 2, 100), 100, next(2), true},
		{beside(1, 0, 100), beside(1, 1, 100), 100, next(2), true},
		{beside(1, -2, 100), beside(1, -1, 100), 100, next(2 - 0x1p-52), true},
		{beside(1, -1, 100), beside(1, 1, 100), 100, next(2 - 0x1p-52), false},
		{beside(1, -1, 100), beside(1, 0, 100), 100, next(2 - 0x1p-52), false},
		{beside(0, 1, 52), beside(0, 2, 52), 52, next(1 + 0x1p-52), false},
		{beside(-1000, 1, 2000), beside(-1000, 2, 2000), 2000, next(0x1p-1000), true},
		{beside(-1022, 1, 1500), beside(-1022, 3, 1500), 1500, next(0x1p-1022), true},
		{beside(-1022, -3, 1500), beside(-1022, -1, 1500), 1500, next(0x1p-1022 - least), true},
		{beside(-1073, 1, 1500), beside(-1073, 9, 1500), 1500, next(2 * least), true},
		{beside(-1073, 1, 1075), beside(-1073, 2, 1075), 1075, next(2 * least), false},
		{beside(-1074, -9, 1500), beside(-1074, -1, 1500), 1500, next(0), true},
		{beside(-1074, -9, 1500), beside(-1074, 1, 1500), 1500, next(0), false},
		{beside(-1400, 1, 1500), beside(-1400, 2, 1500), 1500, next(0), true},
		{nil, beside(-1400, 2, 1500), 1500, next(0), true},
	} {
		s, settled := fixed.Bounds{Lo: row.lo, Hi: row.hi, Places: row.places}.Tight()
		if settled != row.settled || s != row.want && settled || math.Signbit(s.Lo) {
			t.Errorf("%x to %x at %d: %x, %v, want %x, %v", row.lo, row.hi, row.places, s, settled, row.want, row.settled)
		}
	}
}

// TestLeastAsksOn: digits are asked for till they settle the number, and no further.
func TestLeastAsksOn(t *testing.T) {
	var asked []int
	s := fixed.Least(func(bits int) fixed.Bounds {
		asked = append(asked, bits)
		// 2 and 2^-600, off by at most a unit, which is told from 2 by enough digits alone.
		n := natural.Right(natural.Add(beside(601, 0, bits), natural.Left(natural.Of(1), bits)), 600)
		return fixed.Short(natural.Sub(n, natural.Of(1)), 2, bits)
	})
	if s != (api.Interval{Lo: 2, Hi: 2 + 0x1p-51}) || !slices.Equal(asked, []int{128, 256, 512, 1024}) {
		t.Errorf("%x, asked %v", s, asked)
	}
}
