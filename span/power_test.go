package span_test

import (
	"math"
	"math/big"
	"testing"

	"cusp/api"
	"cusp/span"
)

// wantPower is a float's power, exactly by the library, and then rounded; never -0.
func wantPower(t *testing.T, f float64, n, mode int) float64 {
	t.Helper()
	if math.IsInf(f, 0) {
		return math.Pow(f, float64(n)) // no rounding here
	}
	power := new(big.Float).SetPrec(54 * 1024).SetInt64(1)
	for range n {
		if power.Mul(power, big.NewFloat(f)); power.Acc() != big.Exact {
			t.Fatalf("%x to the %d is too long", f, n)
		}
	}
	near, side := power.Float64()
	switch {
	case mode == api.Down && side == big.Above:
		near = math.Nextafter(near, -inf)
	case mode == api.Up && side == big.Below:
		near = math.Nextafter(near, inf)
	}
	return near + 0
}

// checkPow holds Pow against the ends' powers: even ones fall up to 0, and rise from there on.
func checkPow(t *testing.T, a api.Interval, n int) {
	t.Helper()
	from, to := a.Lo, a.Hi
	if n%2 == 0 && n > 0 {
		if math.Abs(from) > math.Abs(to) {
			from, to = to, from
		}
		if a.Lo <= 0 && 0 <= a.Hi {
			from = 0
		}
	}
	got, err := span.Pow(a, n)
	check(t, got, err, of(wantPower(t, from, n, api.Down), wantPower(t, to, n, api.Up)), "Pow", a, n)
}

func TestSP3PowCases(t *testing.T) {
	cases := []struct {
		a    api.Interval
		n    int
		want api.Interval
	}{
		{of(-2, 1), 2, of(0, 4)}, {of(-1, 2), 2, of(0, 4)}, {of(-2, 1), 3, of(-8, 1)}, {of(-3, -2), 2, of(4, 9)}, {of(-3, -2), 3, of(-27, -8)},
		{of(-2, 3), 0, alone(1)}, {alone(0), 0, alone(1)}, {span.All(), 0, alone(1)}, {of(-inf, -1), 0, alone(1)}, {of(5, inf), 0, alone(1)},
		{of(-2, 3), 1, of(-2, 3)}, {of(-inf, 0.1), 1, of(-inf, 0.1)},
		{span.All(), 2, of(0, inf)}, {span.All(), 3, span.All()}, {of(-inf, -2), 2, of(4, inf)}, {of(-inf, -2), 3, of(-inf, -8)}, {of(2, inf), 1024, of(greatest, inf)},
		{alone(0), 1024, alone(0)}, {alone(1), 1024, alone(1)}, {alone(-1), 1023, alone(-1)}, {alone(-1), 1024, alone(1)},
		{alone(2), 1023, alone(0x1p1023)}, {alone(2), 1024, of(greatest, inf)}, {alone(-2), 1023, alone(-0x1p1023)},
		{alone(0.5), 1024, alone(0x1p-1024)}, {alone(0.25), 537, alone(least)}, {alone(0.25), 538, of(0, least)}, {alone(-0.25), 539, of(-least, 0)},
		{alone(least), 2, of(0, least)}, {alone(least), 1024, of(0, least)}, {alone(-least), 1023, of(-least, 0)},
		{alone(3 * least), 61, of(0, least)}, {alone(3 * least), 62, of(0, least)}, {alone(3 * least), 1024, of(0, least)},
		{alone(greatest), 2, of(greatest, inf)}, {alone(greatest), 1024, of(greatest, inf)}, {alone(-greatest), 1023, of(-inf, -greatest)},
		{alone(0x1p64), 16, of(greatest, inf)}, {alone(0x1p971), 1024, of(greatest, inf)},
	}
	for _, c := range cases {
		got, err := span.Pow(c.a, c.n)
		check(t, got, err, c.want, "Pow", c.a, c.n)
	}
}

func TestSP3PowEdges(t *testing.T) {
	for _, a := range intervals(edges()) {
		for _, n := range []int{0, 1, 2, 3, 5, 8} {
			checkPow(t, a, n)
		}
	}
	for _, a := range intervals([]float64{-inf, -greatest, -afterOne, -beforeOne, -3 * least, 0, 0.1, beforeOne, afterOne, inf}) {
		for _, n := range []int{61, 62, 1023, 1024} {
			checkPow(t, a, n)
		}
	}
}

// TestSP3P6PowMany: powers of floats near 1 stay finite to the end; those of others do for small n.
func TestSP3P6PowMany(t *testing.T) {
	r := numbers{84}
	for range 300 {
		f := (1 + float64(r.below(1<<30)-1<<29)*0x1p-31) * float64(1-r.below(2)*2)
		checkPow(t, alone(f), r.below(1025))
	}
	for range 1500 {
		checkPow(t, r.interval(), r.below(24))
	}
}

func TestSP3PowWrong(t *testing.T) {
	for _, n := range []int{-1, 1025, -2, 2048, 1<<32 + 2, math.MaxInt, math.MinInt, math.MinInt + 2} {
		for _, a := range append(wrongIntervals(), alone(0), alone(1), span.All(), of(-2, 1)) {
			got, err := span.Pow(a, n)
			checkErr(t, got, err, api.ErrArg, "Pow", a, n)
		}
	}
	for _, w := range wrongIntervals() {
		for _, n := range []int{0, 1, 2, 3, 1024} {
			got, err := span.Pow(w, n)
			checkErr(t, got, err, api.ErrArg, "Pow", w, n)
		}
	}
}
