package span_test

import (
	"math"
	"math/big"
	"testing"

	"cusp/api"
	"cusp/span"
)

// wantMid is SP4's, by the library's nearest float (which keeps the sign of what is not 0).
func wantMid(a api.Interval) float64 {
	switch {
	case a == of(-inf, inf):
		return 0
	case a.Lo == -inf:
		return -greatest
	case a.Hi == inf:
		return greatest
	}
	half := new(big.Rat).Add(exact(a.Lo), exact(a.Hi))
	f, _ := half.Quo(half, big.NewRat(2, 1)).Float64()
	if f == 0 && half.Sign() < 0 {
		return minusZero
	}
	return f
}

func wantRad(a api.Interval, mid float64) float64 {
	if math.IsInf(a.Lo, 0) || math.IsInf(a.Hi, 0) {
		return inf
	}
	low := new(big.Rat).Sub(exact(mid), exact(a.Lo))
	high := new(big.Rat).Sub(exact(a.Hi), exact(mid))
	if low.Cmp(high) > 0 {
		high = low
	}
	return towards(high, api.Up)
}

func checkMiddle(t *testing.T, a api.Interval, wantM, wantR float64) {
	t.Helper()
	if mid, err := span.Mid(a); !same(mid, wantM) || err != api.OK {
		t.Errorf("Mid(%x) = %x, %v, want %x", a, mid, err, wantM)
	}
	if rad, err := span.Rad(a); !same(rad, wantR) || err != api.OK {
		t.Errorf("Rad(%x) = %x, %v, want %x", a, rad, err, wantR)
	}
}

func TestSP4Cases(t *testing.T) {
	cases := []struct {
		a        api.Interval
		mid, rad float64
	}{
		{of(1, 2), 1.5, 0.5},
		{span.All(), 0, inf},
		{of(1, inf), greatest, inf}, {of(-inf, 1), -greatest, inf}, {of(-inf, -greatest), -greatest, inf}, {of(greatest, inf), greatest, inf}, {of(-1, inf), greatest, inf},
		{of(-greatest, greatest), 0, greatest}, {of(beforeTop, greatest), beforeTop, 0x1p971}, {alone(greatest), greatest, 0}, {alone(-greatest), -greatest, 0},
		{alone(0), 0, 0}, {of(-1, 1), 0, 1}, {alone(0.1), 0.1, 0},
		{of(1, afterOne), 1, 0x1p-52}, {of(afterOne, 0x1.0000000000002p0), 0x1.0000000000002p0, 0x1p-52},
		{of(0, least), 0, least}, {of(-least, 0), minusZero, least}, {of(least, 2*least), 2 * least, least}, {of(-least, 2*least), 0, 2 * least}, {of(-2*least, least), minusZero, 2 * least},
		{of(-least, greatest), 0x1.fffffffffffffp1022, 0x1.fffffffffffffp1022 + 0x1p970},
	}
	for _, c := range cases {
		checkMiddle(t, c.a, c.mid, c.rad)
	}
}

func TestSP4P6Many(t *testing.T) {
	r := numbers{85}
	all := intervals(edges())
	for range 3000 {
		all = append(all, r.interval())
	}
	for _, a := range all {
		mid := wantMid(a)
		checkMiddle(t, a, mid, wantRad(a, mid))
	}
}

func TestSP4Wrong(t *testing.T) {
	for _, w := range wrongIntervals() {
		if mid, err := span.Mid(w); !same(mid, 0) || err != api.ErrArg {
			t.Errorf("Mid(%x) = %x, %v", w, mid, err)
		}
		if rad, err := span.Rad(w); !same(rad, 0) || err != api.ErrArg {
			t.Errorf("Rad(%x) = %x, %v", w, rad, err)
		}
	}
}
