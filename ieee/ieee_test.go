package ieee_test

import (
	"math"
	"slices"
	"testing"

	"cusp/api"
	"cusp/ieee"
)

const (
	least       = math.SmallestNonzeroFloat64 // 2^-1074
	leastNormal = 0x1p-1022
	topSmall    = leastNormal - least // the greatest one below 2^-1022
	greatest    = math.MaxFloat64
)

var (
	minusZero = math.Copysign(0, -1)
	inf       = math.Inf(1)
	nan       = math.NaN()
)

// nans are quiet and signalling ones, of both signs.
func nans() []float64 {
	var out []float64
	for _, b := range []uint64{0x7FF8000000000001, 0x7FF0000000000001, 0x7FFFFFFFFFFFFFFF, 0xFFF8000000000000, 0xFFF0000000000001, 0xFFFFFFFFFFFFFFFF} {
		out = append(out, math.Float64frombits(b))
	}
	return out
}

// rising are floats that are no NaN, from -Inf to +Inf, each once: the edges, powers of two with their neighbours, and many between.
func rising() []float64 {
	up := []float64{0, least, 2 * least, 3 * least, topSmall - least, topSmall, leastNormal, leastNormal + least, leastNormal + 2*least, 2*leastNormal - 2*least, 0.1, 6, 1e100, greatest, inf}
	for e := -1074; e <= 1023; e += 31 {
		p := math.Ldexp(1, e)
		up = append(up, p, math.Nextafter(p, 0), math.Nextafter(p, inf))
	}
	up = append(up, 1, math.Nextafter(1, 0), math.Nextafter(1, 2))
	seed := uint64(1)
	for range 300 {
		seed = seed*6364136223846793005 + 1442695040888963407
		if f := math.Float64frombits(seed &^ (1 << 63)); f == f {
			up = append(up, f)
		}
	}
	slices.Sort(up)
	up = slices.Compact(up)
	var out []float64
	for _, f := range slices.Backward(up) {
		out = append(out, -f)
	}
	out[len(out)-1] = minusZero
	return append(out, up...)
}

// all are rising and the NaNs.
func all() []float64 { return append(rising(), nans()...) }

// bitsAre tells whether two floats are alike as the document compares answers.
func bitsAre(a, b float64) bool {
	return math.Float64bits(a) == math.Float64bits(b) || math.IsNaN(a) && math.IsNaN(b)
}

func wantFloat(t *testing.T, what string, of, got, want float64) {
	t.Helper()
	if !bitsAre(got, want) {
		t.Errorf("%s(%x) = %x, want %x", what, of, got, want)
	}
}

// TestIE1Numbers: the classes have the numbers that are given.
func TestIE1Numbers(t *testing.T) {
	got := [...]int{ieee.NaN, ieee.Inf, ieee.Zero, ieee.Small, ieee.Normal}
	if got != [...]int{1, 2, 3, 4, 5} {
		t.Errorf("classes: %v", got)
	}
}

func TestIE1Class(t *testing.T) {
	cases := []struct {
		f     float64
		class int
	}{
		{0, ieee.Zero},
		{least, ieee.Small}, {topSmall, ieee.Small},
		{leastNormal, ieee.Normal}, {leastNormal + least, ieee.Normal}, {1, ieee.Normal}, {0.1, ieee.Normal}, {greatest, ieee.Normal},
		{inf, ieee.Inf},
	}
	for _, c := range cases {
		if class, neg := ieee.Class(c.f); class != c.class || neg {
			t.Errorf("Class(%x) = %d, %v", c.f, class, neg)
		}
		minus := math.Copysign(c.f, -1)
		if class, neg := ieee.Class(minus); class != c.class || !neg {
			t.Errorf("Class(%x) = %d, %v", minus, class, neg)
		}
	}
	for _, f := range nans() {
		if class, neg := ieee.Class(f); class != ieee.NaN || neg {
			t.Errorf("Class(NaN %x) = %d, %v", math.Float64bits(f), class, neg)
		}
	}
}

func TestIE1Same(t *testing.T) {
	list := all()
	for i, a := range list {
		for j, b := range list {
			want := i == j || a != a && b != b
			if ieee.Same(a, b) != want {
				t.Errorf("Same(%x, %x) = %v", a, b, !want)
			}
		}
	}
}

func TestIE1With(t *testing.T) {
	cases := []struct{ a, b, want float64 }{
		{3, -2, -3}, {-3, 2, 3}, {3, 2, 3}, {-3, -2, -3},
		{3, minusZero, -3}, {-3, 0, 3},
		{0, -1, minusZero}, {minusZero, 1, 0},
		{inf, -inf, -inf}, {-inf, least, inf}, {greatest, -least, -greatest},
		{-3, nan, 3}, {minusZero, nan, 0}, {-inf, nan, inf}, {3, nan, 3},
		{nan, 1, nan}, {nan, -1, nan}, {nan, nan, nan},
	}
	for _, c := range cases {
		if got := ieee.With(c.a, c.b); !bitsAre(got, c.want) {
			t.Errorf("With(%x, %x) = %x, want %x", c.a, c.b, got, c.want)
		}
	}
	for _, n := range nans() {
		wantFloat(t, "With its sign", -3, ieee.With(-3, n), 3)
		if got := ieee.With(n, -1); got == got {
			t.Errorf("With(NaN, -1) = %x", got)
		}
	}
}

func TestIE2NextPrev(t *testing.T) {
	cases := []struct{ f, next, prev float64 }{
		{0, least, -least}, {minusZero, least, -least},
		{least, 2 * least, 0}, {-least, minusZero, -2 * least},
		{topSmall, leastNormal, topSmall - least}, {-topSmall, -(topSmall - least), -leastNormal},
		{leastNormal, leastNormal + least, topSmall}, {-leastNormal, -topSmall, -(leastNormal + least)},
		{1, 1.0000000000000002, 0.9999999999999999}, {-1, -0.9999999999999999, -1.0000000000000002},
		{0x1.fffffffffffffp0, 2, 0x1.ffffffffffffep0},
		{greatest, inf, 0x1.ffffffffffffep1023}, {-greatest, -0x1.ffffffffffffep1023, -inf},
		{inf, inf, greatest}, {-inf, -greatest, -inf},
	}
	for _, c := range cases {
		wantFloat(t, "Next", c.f, ieee.Next(c.f), c.next)
		wantFloat(t, "Prev", c.f, ieee.Prev(c.f), c.prev)
	}
	for _, f := range all() {
		wantFloat(t, "Next", f, ieee.Next(f), math.Nextafter(f, inf))
		wantFloat(t, "Prev", f, ieee.Prev(f), -ieee.Next(-f))
	}
	for _, f := range nans() {
		if n, p := ieee.Next(f), ieee.Prev(f); n == n || p == p {
			t.Errorf("Next and Prev of NaN: %x, %x", n, p)
		}
	}
}

func TestIE2Unit(t *testing.T) {
	cases := []struct{ f, want float64 }{
		{0, least}, {least, least}, {topSmall, least},
		{leastNormal, least}, {2*leastNormal - least, least}, {2 * leastNormal, 2 * least},
		{0.75, 0x1p-53}, {1, 0x1p-52}, {1.5, 0x1p-52}, {0x1.fffffffffffffp0, 0x1p-52}, {2, 0x1p-51},
		{greatest, 0x1p971}, {inf, inf}, {nan, nan},
	}
	for _, c := range cases {
		wantFloat(t, "Unit", c.f, ieee.Unit(c.f), c.want)
		minus := math.Copysign(c.f, -1)
		wantFloat(t, "Unit", minus, ieee.Unit(minus), c.want)
	}
	for _, f := range all() {
		if math.IsInf(f, 0) || f != f || f == 0 {
			continue
		}
		_, e := math.Frexp(f)
		wantFloat(t, "Unit", f, ieee.Unit(f), math.Ldexp(1, max(e-53, -1074)))
	}
}

func TestIE3Split(t *testing.T) {
	cases := []struct {
		f float64
		m uint64
		e int
	}{
		{0, 0, 0}, {1, 1, 0}, {6, 3, 1}, {0.5, 1, -1}, {0.1, 0xCCCCCCCCCCCCD, -55},
		{least, 1, -1074}, {2 * least, 1, -1073}, {3 * least, 3, -1074}, {topSmall, 1<<52 - 1, -1074},
		{leastNormal, 1, -1022}, {leastNormal + least, 1<<52 + 1, -1074},
		{greatest, 1<<53 - 1, 971}, {0x1p1023, 1, 1023},
	}
	for _, c := range cases {
		for _, sign := range []float64{1, -1} {
			f := math.Copysign(c.f, sign)
			m, e, neg, ok := ieee.Split(f)
			if m != c.m || e != c.e || neg != (sign < 0) || !ok {
				t.Errorf("Split(%x) = %d, %d, %v, %v", f, m, e, neg, ok)
			}
		}
	}
	for _, f := range append(nans(), inf, -inf) {
		if m, e, neg, ok := ieee.Split(f); m != 0 || e != 0 || neg || ok {
			t.Errorf("Split(%x) = %d, %d, %v, %v", f, m, e, neg, ok)
		}
	}
	for _, f := range rising() {
		if m, e, _, ok := ieee.Split(f); ok && f != 0 && (m%2 != 1 || math.Ldexp(float64(m), e) != math.Abs(f)) {
			t.Errorf("Split(%x) = %d, %d", f, m, e)
		}
	}
}

func TestIE4Order(t *testing.T) {
	cases := []struct {
		f    float64
		want int64
	}{
		{0, 0}, {minusZero, -1}, {least, 1}, {-least, -2},
		{topSmall, 1<<52 - 1}, {leastNormal, 1 << 52}, {-leastNormal, -1 - 1<<52},
		{1, 0x3FF << 52}, {-1, -1 - 0x3FF<<52},
		{greatest, 0x7FF<<52 - 1}, {-greatest, -0x7FF << 52},
		{inf, 0x7FF << 52}, {-inf, -1 - 0x7FF<<52},
	}
	for _, c := range cases {
		if got := ieee.Order(c.f); got != c.want {
			t.Errorf("Order(%x) = %d, want %d", c.f, got, c.want)
		}
	}
	for _, f := range nans() {
		if got := ieee.Order(f); got != math.MaxInt64 {
			t.Errorf("Order(NaN %x) = %d", math.Float64bits(f), got)
		}
	}
}

func TestIE4Apart(t *testing.T) {
	cases := []struct {
		a, b float64
		n    uint64
		ok   bool
	}{
		{0, 0, 0, true}, {0, minusZero, 0, true}, {minusZero, 0, 0, true}, {minusZero, minusZero, 0, true},
		{-least, least, 2, true}, {-least, 0, 1, true}, {-least, minusZero, 1, true}, {0, least, 1, true}, {minusZero, least, 1, true},
		{1, 1, 0, true}, {1, 2, 1 << 52, true}, {-2, -1, 1 << 52, true}, {topSmall, leastNormal, 1, true},
		{greatest, inf, 1, true}, {-inf, -greatest, 1, true}, {inf, inf, 0, true}, {-inf, -inf, 0, true},
		{-inf, inf, 2 * (0x7FF << 52), true}, {-inf, 0, 0x7FF << 52, true}, {-greatest, greatest, 2*(0x7FF<<52) - 2, true},
		{2, 1, 0, false}, {-1, -2, 0, false}, {least, 0, 0, false}, {least, minusZero, 0, false}, {0, -least, 0, false}, {inf, -inf, 0, false}, {inf, greatest, 0, false},
		{nan, 1, 0, false}, {1, nan, 0, false}, {nan, nan, 0, false}, {nan, inf, 0, false}, {-inf, nan, 0, false},
	}
	for _, c := range cases {
		if n, ok := ieee.Apart(c.a, c.b); n != c.n || ok != c.ok {
			t.Errorf("Apart(%x, %x) = %d, %v", c.a, c.b, n, ok)
		}
	}
}

// TestIE4ApartSteps counts the steps one by one.
func TestIE4ApartSteps(t *testing.T) {
	for _, a := range []float64{-3 * least, minusZero, 0, leastNormal - 2*least, -leastNormal - 2*least, 0.9999999999999997, 0x1.ffffffffffffcp1023, -inf} {
		b := a
		for want := range uint64(6) {
			if n, ok := ieee.Apart(a, b); n != want && b != inf || !ok {
				t.Errorf("Apart(%x, %x) = %d, %v, want %d", a, b, n, ok, want)
			}
			b = ieee.Next(b)
		}
	}
}

func TestIE5Steps(t *testing.T) {
	for _, f := range rising() {
		if math.IsInf(f, 0) {
			continue
		}
		if got := ieee.Next(ieee.Prev(f)); got != f || f != 0 && !bitsAre(got, f) {
			t.Errorf("Next(Prev(%x)) = %x", f, got)
		}
		if class, neg := ieee.Class(f); class == ieee.Normal {
			away := f + ieee.With(ieee.Unit(f), f)
			from, to := f, away
			if neg {
				from, to = away, f
			}
			if n, ok := ieee.Apart(from, to); n != 1 || !ok {
				t.Errorf("Unit(%x) leads %d steps away, %v", f, n, ok)
			}
		}
	}
}

func TestIE5Order(t *testing.T) {
	list := rising()
	for _, a := range list {
		for _, b := range list {
			if a == 0 && b == 0 {
				continue
			}
			if a < b != (ieee.Order(a) < ieee.Order(b)) {
				t.Errorf("Order(%x) = %d, Order(%x) = %d", a, ieee.Order(a), b, ieee.Order(b))
			}
		}
	}
}

func TestIE5MakeOfSplit(t *testing.T) {
	for _, f := range rising() {
		m, e, neg, ok := ieee.Split(f)
		if !ok {
			continue
		}
		for _, mode := range []int{api.Down, api.Near, api.Up} {
			if got := ieee.Make(neg, m, e, mode); !bitsAre(got, f) {
				t.Errorf("Make of Split(%x), mode %d: %x", f, mode, got)
			}
		}
	}
}

// TestP2Alone: what was asked before changes no answer.
func TestP2Alone(t *testing.T) {
	answers := func(list []float64) map[uint64][6]uint64 {
		out := map[uint64][6]uint64{}
		for _, f := range list {
			class, _ := ieee.Class(f)
			m, _, _, _ := ieee.Split(f)
			out[math.Float64bits(f)] = [6]uint64{math.Float64bits(ieee.Next(f)), math.Float64bits(ieee.Prev(f)), math.Float64bits(ieee.Unit(f)), uint64(ieee.Order(f)), uint64(class), m}
		}
		return out
	}
	list := rising()
	first := answers(list)
	slices.Reverse(list)
	for b, want := range answers(list) {
		if first[b] != want {
			t.Errorf("of %x: first %x, then %x", math.Float64frombits(b), first[b], want)
		}
	}
}
