package span_test

import (
	"math"
	"math/big"
	"testing"

	"cusp/api"
	"cusp/span"
)

type binary = func(a, b api.Interval) (api.Interval, api.Errno)

func TestSP3Examples(t *testing.T) {
	cases := []struct {
		name string
		call binary
		a, b api.Interval
		want api.Interval
	}{
		{"Mul", span.Mul, of(-1, 2), of(3, inf), of(-inf, inf)},
		{"Mul", span.Mul, alone(0), span.All(), alone(0)},
		{"Mul", span.Mul, of(0, 1), of(1, inf), of(0, inf)},
		{"Mul", span.Mul, of(-1, 0), of(1, inf), of(-inf, 0)},
		{"Mul", span.Mul, of(-inf, -2), of(-inf, -3), of(6, inf)},
		{"Mul", span.Mul, of(greatest, inf), of(greatest, inf), of(greatest, inf)},
		{"Mul", span.Mul, alone(greatest), alone(-greatest), of(-inf, -greatest)},
		{"Mul", span.Mul, alone(least), alone(-least), of(-least, 0)},
		{"Mul", span.Mul, alone(least), alone(0.5), of(0, least)},
		{"Mul", span.Mul, of(-2, 3), of(-5, 7), of(-15, 21)},
		{"Quo", span.Quo, alone(1), alone(3), of(0x1.5555555555555p-2, 0x1.5555555555556p-2)},
		{"Quo", span.Quo, alone(1), of(1, inf), of(0, 1)},
		{"Quo", span.Quo, of(1, inf), of(1, inf), of(0, inf)},
		{"Quo", span.Quo, of(1, inf), of(-inf, -1), of(-inf, 0)},
		{"Quo", span.Quo, span.All(), of(least, inf), span.All()},
		{"Quo", span.Quo, alone(0), of(-inf, -least), alone(0)},
		{"Quo", span.Quo, alone(greatest), alone(least), of(greatest, inf)},
		{"Quo", span.Quo, alone(-least), alone(greatest), of(-least, 0)},
		{"Quo", span.Quo, of(-6, 4), of(-2, -1), of(-4, 6)},
		{"Add", span.Add, alone(0.1), alone(0.2), of(0.3, 0.30000000000000004)},
		{"Add", span.Add, alone(greatest), alone(greatest), of(greatest, inf)},
		{"Add", span.Add, alone(-greatest), alone(-least), of(-inf, -greatest)},
		{"Add", span.Add, of(-inf, 1), of(2, inf), span.All()},
		{"Add", span.Add, alone(1), alone(-1), alone(0)},
		{"Sub", span.Sub, of(1, 2), of(1, 2), of(-1, 1)},
		{"Sub", span.Sub, alone(0), alone(0), alone(0)},
		{"Sub", span.Sub, of(0, inf), of(0, inf), span.All()},
		{"Sub", span.Sub, alone(1), alone(0x1p-60), of(beforeOne, 1)},
	}
	for _, c := range cases {
		got, err := c.call(c.a, c.b)
		check(t, got, err, c.want, c.name, c.a, c.b)
	}
}

// checkBinary holds sums, differences, products and quotients against the sets that they are of.
func checkBinary(t *testing.T, a, b api.Interval) {
	t.Helper()
	got, err := span.Add(a, b)
	check(t, got, err, wantAdd(a, b), "Add", a, b)
	got, err = span.Sub(a, b)
	check(t, got, err, wantSub(a, b), "Sub", a, b)
	got, err = span.Mul(a, b)
	check(t, got, err, wantMul(a, b), "Mul", a, b)
	got, err = span.Quo(a, b)
	if b.Lo <= 0 && 0 <= b.Hi {
		checkErr(t, got, err, api.ErrZero, "Quo", a, b)
		return
	}
	check(t, got, err, wantQuo(a, b), "Quo", a, b)
}

func TestSP3P6Edges(t *testing.T) {
	all := intervals(corners())
	for _, a := range all {
		for _, b := range all {
			checkBinary(t, a, b)
		}
	}
	r := numbers{81}
	for _, a := range intervals(edges()) {
		checkBinary(t, a, r.interval())
		checkBinary(t, r.interval(), a)
	}
}

func TestSP3P6Many(t *testing.T) {
	r := numbers{82}
	for range 3000 {
		checkBinary(t, r.interval(), r.interval())
	}
}

func TestSP3QuoZero(t *testing.T) {
	for _, b := range []api.Interval{alone(0), of(-1, 1), of(0, 1), of(-1, 0), span.All(), of(0, inf), of(-inf, 0), of(-least, least)} {
		got, err := span.Quo(alone(0), b)
		checkErr(t, got, err, api.ErrZero, "Quo", 0, b)
	}
	got, err := span.Quo(of(2, 1), of(-1, 1)) // ErrArg comes first
	checkErr(t, got, err, api.ErrArg, "Quo", "2 to 1", "-1 to 1")
	got, err = span.Quo(alone(1), of(minusZero, 1))
	checkErr(t, got, err, api.ErrArg, "Quo", 1, "-0 to 1")
}

func TestSP3Neg(t *testing.T) {
	for _, a := range intervals(edges()) {
		got, err := span.Neg(a)
		check(t, got, err, reach{boundOf(a.Hi).times(-1), boundOf(a.Lo).times(-1)}.tightest(), "Neg", a)
	}
	got, err := span.Neg(of(0, inf))
	check(t, got, err, of(-inf, 0), "Neg", "0 on")
	got, err = span.Neg(alone(0))
	check(t, got, err, alone(0), "Neg", 0)
}

func TestSP3Abs(t *testing.T) {
	for _, a := range intervals(edges()) {
		var list []reach
		for _, p := range pieces(a) {
			list = append(list, p.reach)
		}
		got, err := span.Abs(a)
		check(t, got, err, joined(list).tightest(), "Abs", a)
	}
	cases := [][2]api.Interval{
		{of(-3, 2), of(0, 3)}, {of(-2, 3), of(0, 3)}, {of(-3, -2), of(2, 3)}, {of(2, 3), of(2, 3)},
		{of(-1, 0), of(0, 1)}, {alone(0), alone(0)}, {span.All(), of(0, inf)}, {of(-inf, -1), of(1, inf)}, {of(-inf, 5), of(0, inf)},
	}
	for _, c := range cases {
		got, err := span.Abs(c[0])
		check(t, got, err, c[1], "Abs", c[0])
	}
}

// wantRoot is the float next to a root, by squares.
func wantRoot(f float64, mode int) float64 {
	if f == inf || f == 0 {
		return f
	}
	root := math.Sqrt(f)
	far := new(big.Rat).Mul(exact(root), exact(root)).Cmp(exact(f))
	switch {
	case mode == api.Down && far > 0:
		return math.Nextafter(root, 0)
	case mode == api.Up && far < 0:
		return math.Nextafter(root, inf)
	}
	return root
}

func checkSqrt(t *testing.T, a api.Interval) {
	t.Helper()
	got, err := span.Sqrt(a)
	if a.Lo < 0 {
		checkErr(t, got, err, api.ErrDom, "Sqrt", a)
		return
	}
	check(t, got, err, of(wantRoot(a.Lo, api.Down), wantRoot(a.Hi, api.Up)), "Sqrt", a)
}

func TestSP3Sqrt(t *testing.T) {
	got, err := span.Sqrt(of(2, 4))
	check(t, got, err, of(0x1.6a09e667f3bccp0, 2), "Sqrt", "2 to 4")
	got, err = span.Sqrt(of(0, inf))
	check(t, got, err, of(0, inf), "Sqrt", "0 on")
	got, err = span.Sqrt(of(-least, 1))
	checkErr(t, got, err, api.ErrDom, "Sqrt", "-least to 1")
	got, err = span.Sqrt(of(-inf, -1))
	checkErr(t, got, err, api.ErrDom, "Sqrt", "to -1")
	got, err = span.Sqrt(of(-1, -2)) // ErrArg comes first
	checkErr(t, got, err, api.ErrArg, "Sqrt", "-1 to -2")
	for _, a := range intervals(edges()) {
		checkSqrt(t, a)
	}
	r := numbers{83}
	for range 2000 {
		a := r.interval()
		checkSqrt(t, a)
		if abs, err := span.Abs(a); err == api.OK {
			checkSqrt(t, abs)
		}
	}
}

// TestSP3Wrong: of an interval that may not be every operation answers ErrArg, ahead of all.
func TestSP3Wrong(t *testing.T) {
	for _, w := range wrongIntervals() {
		for name, call := range map[string]func(a api.Interval) (api.Interval, api.Errno){"Neg": span.Neg, "Abs": span.Abs, "Sqrt": span.Sqrt} {
			got, err := call(w)
			checkErr(t, got, err, api.ErrArg, name, w)
		}
		for _, s := range append(append(intervals(corners()), api.Interval{}), wrongIntervals()...) {
			for name, call := range map[string]binary{"Add": span.Add, "Sub": span.Sub, "Mul": span.Mul, "Quo": span.Quo} {
				got, err := call(w, s)
				checkErr(t, got, err, api.ErrArg, name, w, s)
				got, err = call(s, w)
				checkErr(t, got, err, api.ErrArg, name, s, w)
			}
		}
	}
}
