package sums_test

import (
	"math"
	"math/big"
	"testing"

	"cusp/api"
	"cusp/sums"
)

// TestSU3Examples: Exact at its edges, rounded each way.
func TestSU3Examples(t *testing.T) {
	for _, c := range []struct {
		list           []float64
		down, near, up float64
	}{
		{[]float64{1, 1e100, 1, -1e100}, 2, 2, 2},
		{[]float64{1, 0x1p-60}, 1, 1, afterOne},
		{[]float64{-1, -0x1p-60}, -afterOne, -1, -1},
		{[]float64{1, 0x1p-53}, 1, 1, afterOne},
		{[]float64{1, 0x1p-53, least}, 1, afterOne, afterOne},
		{[]float64{afterOne, 0x1p-53}, afterOne, 0x1.0000000000002p0, 0x1.0000000000002p0},
		{[]float64{greatest, greatest, -greatest}, greatest, greatest, greatest},
		{[]float64{greatest, greatest}, greatest, inf, inf},
		{[]float64{-greatest, -greatest}, -inf, -inf, -greatest},
		{[]float64{greatest, topUnit / 2}, greatest, inf, inf},
		{[]float64{greatest, topUnit / 2, -least}, greatest, greatest, inf},
		{[]float64{greatest, least, -greatest}, least, least, least},
		{[]float64{-inf, 1}, 0, 0, 0}, // beside its error
	} {
		for i, mode := range modes {
			want := [3]float64{c.down, c.near, c.up}[i]
			err := api.OK
			if math.IsInf(c.list[0], 0) {
				err = api.ErrInf
			}
			got, gotErr := sums.Exact(c.list, mode)
			checkWithError(t, got, gotErr, want, err, "Exact", c.list, mode)
		}
	}
}

// TestSU3Noughts: the sum 0 is -0 just where all are -0 and there are any, in every mode.
func TestSU3Noughts(t *testing.T) {
	for _, c := range []struct {
		list []float64
		want float64
	}{
		{nil, 0}, {[]float64{}, 0}, {[]float64{0}, 0}, {[]float64{minusZero}, minusZero},
		{[]float64{minusZero, minusZero, minusZero}, minusZero}, {[]float64{minusZero, 0}, 0}, {[]float64{0, minusZero}, 0}, {[]float64{minusZero, 0, minusZero}, 0},
		{[]float64{1, -1}, 0}, {[]float64{-1, 1}, 0}, {[]float64{minusZero, -1, 1}, 0}, {[]float64{-least, minusZero, least}, 0}, {[]float64{0, 0}, 0},
	} {
		for _, mode := range modes {
			got, err := sums.Exact(c.list, mode)
			checkWithError(t, got, err, c.want, api.OK, "Exact", c.list, mode)
		}
	}
}

// TestSU3P6Exact: R of the sum, once, held against a search among all floats.
func TestSU3P6Exact(t *testing.T) {
	r := numbers{seed: 504}
	for range 1500 {
		l := r.list(12)
		for _, mode := range modes {
			want := rounded(sumOf(l), mode)
			if want == 0 && allMinus(l) {
				want = minusZero
			}
			got, err := sums.Exact(l, mode)
			checkWithError(t, got, err, want, api.OK, "Exact", l, mode)
		}
	}
}

func allMinus(l []float64) bool {
	for _, x := range l {
		if !same(x, minusZero) {
			return false
		}
	}
	return len(l) > 0
}

// TestSU3Dot: examples, and noughts: +0 of the exact 0, else with the sign of what was rounded.
func TestSU3Dot(t *testing.T) {
	for _, c := range []struct {
		a, b           []float64
		down, near, up float64
	}{
		{[]float64{1e16, 1}, []float64{1, 1}, 1e16, 1e16, 1e16 + 2},
		{nil, nil, 0, 0, 0}, {nil, []float64{}, 0, 0, 0},
		{[]float64{minusZero}, []float64{1}, 0, 0, 0}, {[]float64{-1}, []float64{0}, 0, 0, 0},
		{[]float64{1, 1}, []float64{1, -1}, 0, 0, 0},
		{[]float64{least}, []float64{least}, 0, 0, least},
		{[]float64{-least}, []float64{least}, -least, minusZero, minusZero},
		{[]float64{least, least}, []float64{0.5, 0x1p-1000}, 0, least, least},
		{[]float64{least}, []float64{0.5}, 0, 0, least},
		{[]float64{greatest, greatest}, []float64{greatest, -greatest}, 0, 0, 0},
		{[]float64{greatest, 1, greatest}, []float64{greatest, 3, -greatest}, 3, 3, 3},
		{[]float64{greatest}, []float64{greatest}, greatest, inf, inf},
		{[]float64{greatest}, []float64{-greatest}, -inf, -inf, -greatest},
		{[]float64{afterOne, -1}, []float64{beforeOne, 1}, -0x1p-53 + 0x1p-52 - 0x1p-105, 0x1p-53 - 0x1p-105, 0x1p-53 - 0x1p-105},
		{[]float64{1, 2, 3}, []float64{4, 5, 6}, 32, 32, 32},
	} {
		for i, mode := range modes {
			got, err := sums.Dot(c.a, c.b, mode)
			checkWithError(t, got, err, [3]float64{c.down, c.near, c.up}[i], api.OK, "Dot", c.a, c.b, mode)
		}
	}
}

// TestSU3P6Dot: R of the sum of products, once.
func TestSU3P6Dot(t *testing.T) {
	r := numbers{seed: 505}
	for range 1500 {
		a := r.list(8)
		b := make([]float64, len(a))
		for i := range b {
			b[i] = r.float()
			if i > 0 && r.below(3) == 0 { // a product that takes an earlier one back
				a[i], b[i] = -b[i-1], a[i-1]
			}
		}
		for _, mode := range modes {
			got, err := sums.Dot(a, b, mode)
			checkWithError(t, got, err, rounded(dotOf(a, b), mode), api.OK, "Dot", a, b, mode)
		}
	}
}

// TestSU3Lost: how far the float is away, never less.
func TestSU3Lost(t *testing.T) {
	for _, c := range []struct {
		list    []float64
		s, want float64
	}{
		{nil, 0, 0}, {nil, minusZero, 0}, {[]float64{minusZero}, minusZero, 0}, {[]float64{minusZero}, 0, 0},
		{nil, 3, 3}, {nil, -3, 3}, {[]float64{3}, 0, 3}, {[]float64{-3}, 0, 3}, {[]float64{-3}, 2, 5}, {[]float64{1, 1e100, 1, -1e100}, 2, 0},
		{[]float64{1, 0x1p-60}, 1, 0x1p-60}, {[]float64{1, -0x1p-60}, 1, 0x1p-60}, {[]float64{1, 0x1p-60, 0x1p-200}, 1, 0x1.0000000000001p-60},
		{[]float64{1}, -0x1p-60, afterOne}, {[]float64{-1}, 0x1p-60, afterOne}, {[]float64{1}, 0x1p-60, 1}, {[]float64{-1}, -0x1p-60, 1},
		{[]float64{greatest, greatest}, greatest, greatest}, {[]float64{greatest, greatest}, 0, inf}, {[]float64{-greatest}, least, inf}, {[]float64{greatest}, -greatest, inf},
	} {
		got, err := sums.Lost(c.list, c.s)
		checkWithError(t, got, err, c.want, api.OK, "Lost", c.list, c.s)
	}
	r := numbers{seed: 506}
	for range 1500 {
		l, s := r.list(8), r.float()
		if r.below(2) == 0 {
			s, _ = sums.Exact(l, api.Near)
		}
		got, err := sums.Lost(l, s)
		far := plus(sumOf(l), wide(-s))
		checkWithError(t, got, err, rounded(far.Abs(far), api.Up), api.OK, "Lost", l, s)
	}
}

// TestSU4Examples: sums in parts.
func TestSU4Examples(t *testing.T) {
	for _, c := range []struct{ list, want []float64 }{
		{[]float64{1, 0x1p-60}, []float64{1, 0x1p-60}}, {[]float64{0x1p-60, 1}, []float64{1, 0x1p-60}},
		{nil, nil}, {[]float64{0}, nil}, {[]float64{minusZero, minusZero}, nil}, {[]float64{1, -1}, nil},
		{[]float64{5}, []float64{5}}, {[]float64{-least}, []float64{-least}},
		{[]float64{1, 0x1p-53}, []float64{1, 0x1p-53}}, {[]float64{afterOne, 0x1p-53}, []float64{0x1.0000000000002p0, -0x1p-53}},
		{[]float64{greatest, least, 1}, []float64{greatest, 1, least}},
		{[]float64{greatest, topUnit / 2, -least}, []float64{greatest, topUnit / 2, -least}},
		{[]float64{greatest, greatest, -greatest, -greatest, 7}, []float64{7}},
	} {
		got, err := sums.Apart(c.list)
		if !sameList(got, c.want) || err != api.OK {
			t.Errorf("Apart(%v) = %v, %v; want %v", c.list, got, err, c.want)
		}
	}
}

// TestSU4TooGreat: a sum whose Near is an infinity has no parts.
func TestSU4TooGreat(t *testing.T) {
	for _, l := range [][]float64{{greatest, topUnit / 2}, {-greatest, -topUnit / 2}, {greatest, greatest}, {-greatest, -greatest, 1}, {topUnit / 2, 1, greatest}} {
		if got, err := sums.Apart(l); len(got) != 0 || err != api.ErrInf {
			t.Errorf("Apart(%v) = %v, %v", l, got, err)
		}
	}
}

// TestSU5Apart: the parts are Near of what is left, have the exact sum, and none reaches beyond half the unit of the one ahead.
func TestSU5Apart(t *testing.T) {
	r := numbers{seed: 507}
	for range 1500 {
		l := r.list(20)
		got, err := sums.Apart(l)
		if err != api.OK {
			t.Fatalf("Apart(%v): %v", l, err)
		}
		left := sumOf(l)
		for i, part := range got {
			check(t, part, rounded(left, api.Near), "part of Apart", l, i)
			left = plus(left, wide(-part))
			if i > 0 && wide(math.Abs(part)).Cmp(halfUnit(got[i-1])) > 0 {
				t.Errorf("Apart(%v) = %x: part %d is too great", l, got, i)
			}
		}
		if left.Sign() != 0 {
			t.Errorf("Apart(%v) = %x leaves %v", l, got, left)
		}
	}
}

func halfUnit(f float64) *big.Float {
	_, e := math.Frexp(f)
	return times(wide(math.Ldexp(1, max(e-53, -1074))), wide(0.5))
}

// TestSU5P8Order: what is exact does not hang on the order.
func TestSU5P8Order(t *testing.T) {
	r := numbers{seed: 508}
	for range 500 {
		l := r.list(15)
		other := r.shuffled(l)
		for _, mode := range modes {
			want, _ := sums.Exact(l, mode)
			got, err := sums.Exact(other, mode)
			checkWithError(t, got, err, want, api.OK, "Exact", other, mode)
		}
		want, _ := sums.Apart(l)
		if got, _ := sums.Apart(other); !sameList(got, want) {
			t.Errorf("Apart(%v) = %v, in another order %v", l, want, got)
		}
	}
	noughts := []float64{0, minusZero, minusZero}
	for range 3 {
		noughts = append(noughts[1:], noughts[0])
		got, err := sums.Exact(noughts, api.Down)
		checkWithError(t, got, err, 0, api.OK, "Exact", noughts)
	}
}
