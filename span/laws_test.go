package span_test

import (
	"math"
	"slices"
	"testing"

	"cusp/api"
	"cusp/dyad"
	"cusp/ieee"
	"cusp/span"
)

func unaries() map[string]func(a api.Interval) (api.Interval, api.Errno) {
	out := map[string]func(a api.Interval) (api.Interval, api.Errno){"Neg": span.Neg, "Abs": span.Abs, "Sqrt": span.Sqrt}
	for name, n := range map[string]int{"Pow 0": 0, "Pow 1": 1, "Pow 2": 2, "Pow 3": 3, "Pow 10": 10, "Pow 101": 101} {
		out[name] = func(a api.Interval) (api.Interval, api.Errno) { return span.Pow(a, n) }
	}
	return out
}

func binaries() map[string]binary {
	return map[string]binary{"Add": span.Add, "Sub": span.Sub, "Mul": span.Mul, "Quo": span.Quo, "Hull": span.Hull}
}

// TestSP5Monotone: what comes of parts lies within what comes of the whole.
func TestSP5Monotone(t *testing.T) {
	r := numbers{91}
	for range 1500 {
		c, d := r.interval(), r.interval()
		a, b := r.part(c), r.part(d)
		if !span.Within(a, c) || !span.Within(b, d) {
			t.Fatalf("%x in %x, %x in %x", a, c, b, d)
		}
		for name, call := range unaries() {
			of, errOf := call(a)
			in, errIn := call(c)
			if errIn == api.OK && (errOf != api.OK || !span.Within(of, in)) {
				t.Errorf("%s(%x) = %x, %v, not within %x of %x", name, a, of, errOf, in, c)
			}
		}
		for name, call := range binaries() {
			of, errOf := call(a, b)
			in, errIn := call(c, d)
			if errIn == api.OK && (errOf != api.OK || !span.Within(of, in)) {
				t.Errorf("%s(%x, %x) = %x, %v, not within %x of %x and %x", name, a, b, of, errOf, in, c, d)
			}
		}
	}
}

func num(f float64) dyad.Num {
	n, _ := dyad.Of(f)
	return n
}

// holds tells by chapter 2 whether n / d, d above 0, lies in an interval.
func holds(s api.Interval, n, d dyad.Num) bool {
	lo, _ := dyad.Mul(num(s.Lo), d)
	hi, _ := dyad.Mul(num(s.Hi), d)
	return (math.IsInf(s.Lo, 0) || dyad.Cmp(lo, n) <= 0) && (math.IsInf(s.Hi, 0) || dyad.Cmp(n, hi) <= 0)
}

// TestSP5Holds: what comes of two floats lies in what comes of intervals with them.
func TestSP5Holds(t *testing.T) {
	r := numbers{92}
	one := dyad.Whole(1)
	exactly := map[string]func(a, b dyad.Num) (dyad.Num, api.Errno){"Add": dyad.Add, "Sub": dyad.Sub, "Mul": dyad.Mul}
	for range 4000 {
		a, b := r.interval(), r.interval()
		f, g := r.in(a), r.in(b)
		for name, call := range exactly {
			got, _ := binaries()[name](a, b)
			if n, err := call(num(f), num(g)); err != api.OK || !holds(got, n, one) {
				t.Errorf("%s(%x, %x) = %x does not hold that of %x and %x", name, a, b, got, f, g)
			}
		}
		if got, err := span.Quo(a, b); err == api.OK {
			n, d := num(f), num(g)
			if d.Neg {
				n, d = dyad.Neg(n), dyad.Neg(d)
			}
			if !holds(got, n, d) {
				t.Errorf("Quo(%x, %x) = %x does not hold that of %x and %x", a, b, got, f, g)
			}
		}
		square, _ := dyad.Mul(num(f), num(f))
		cube, _ := dyad.Mul(square, num(f))
		if got, _ := span.Pow(a, 2); !holds(got, square, one) {
			t.Errorf("Pow(%x, 2) = %x does not hold that of %x", a, got, f)
		}
		if got, _ := span.Pow(a, 3); !holds(got, cube, one) {
			t.Errorf("Pow(%x, 3) = %x does not hold that of %x", a, got, f)
		}
		if got, _ := span.Sqrt(of(0, math.Abs(f))); math.Sqrt(math.Abs(f)) > got.Hi {
			t.Errorf("Sqrt of 0 to %x = %x", math.Abs(f), got)
		}
	}
}

// TestSP5Tight: of floats alone the ends are alike or neighbours, so that no tighter interval is there.
func TestSP5Tight(t *testing.T) {
	r := numbers{93}
	for range 2000 {
		a, b := alone(r.float()), alone(r.float())
		for name, call := range binaries() {
			got, err := call(a, b)
			if name != "Hull" && err == api.OK && got.Lo != got.Hi && ieee.Next(got.Lo) != got.Hi {
				t.Errorf("%s(%x, %x) = %x", name, a, b, got)
			}
		}
		for name, call := range unaries() {
			if got, err := call(a); err == api.OK && got.Lo != got.Hi && ieee.Next(got.Lo) != got.Hi {
				t.Errorf("%s(%x) = %x", name, a, got)
			}
		}
	}
}

// TestSP5Exchanged: Add and Mul do not ask for the order; Sub is Add of what is turned; a square lies within the product.
func TestSP5Exchanged(t *testing.T) {
	r := numbers{94}
	all := intervals(corners())
	for range 40 {
		all = append(all, r.interval())
	}
	for _, a := range all {
		for _, b := range all {
			got, err := span.Add(a, b)
			want, _ := span.Add(b, a)
			check(t, got, err, want, "Add, exchanged", a, b)
			got, err = span.Mul(a, b)
			want, _ = span.Mul(b, a)
			check(t, got, err, want, "Mul, exchanged", a, b)
			got, err = span.Sub(a, b)
			turned, _ := span.Neg(b)
			want, _ = span.Add(a, turned)
			check(t, got, err, want, "Sub", a, b)
		}
		square, _ := span.Pow(a, 2)
		if product, _ := span.Mul(a, a); !span.Within(square, product) {
			t.Errorf("Pow(%x, 2) = %x, not within %x", a, square, product)
		}
	}
}

// TestSP5Middle: no end is farther from Mid than Rad, exactly.
func TestSP5Middle(t *testing.T) {
	r := numbers{95}
	all := intervals(edges())
	for range 2000 {
		all = append(all, r.interval())
	}
	for _, a := range all {
		mid, _ := span.Mid(a)
		rad, _ := span.Rad(a)
		if rad == inf {
			continue // all numbers are at most so far away
		}
		low, _ := dyad.Sub(num(mid), num(rad))
		high, _ := dyad.Add(num(mid), num(rad))
		if dyad.Cmp(low, num(a.Lo)) > 0 || dyad.Cmp(num(a.Hi), high) > 0 {
			t.Errorf("%x is not within %x of %x", a, rad, mid)
		}
	}
}

// TestP6MayBe: every interval that comes out without an error may be.
func TestP6MayBe(t *testing.T) {
	all := intervals(corners())
	for _, a := range all {
		for name, call := range unaries() {
			if got, err := call(a); err == api.OK && !span.Valid(got) {
				t.Errorf("%s(%x) = %x", name, a, got)
			}
		}
		for _, b := range all {
			for name, call := range binaries() {
				if got, err := call(a, b); err == api.OK && !span.Valid(got) {
					t.Errorf("%s(%x, %x) = %x", name, a, b, got)
				}
			}
		}
	}
}

// answers are all that the package tells of two intervals.
func answers(a, b api.Interval) []float64 {
	var out []float64
	add := func(s api.Interval, err api.Errno) { out = append(out, s.Lo, s.Hi, float64(err)) }
	is := func(b bool) {
		if b {
			out = append(out, 1)
		} else {
			out = append(out, 0)
		}
	}
	for _, name := range []string{"Add", "Sub", "Mul", "Quo", "Hull"} {
		add(binaries()[name](a, b))
	}
	for _, name := range []string{"Neg", "Abs", "Sqrt", "Pow 2", "Pow 3"} {
		add(unaries()[name](a))
	}
	is(span.Valid(a))
	is(span.Within(a, b))
	is(span.Has(a, b.Lo))
	both, any := span.Meet(a, b)
	add(both, api.OK)
	is(any)
	add(span.Of(a.Lo, b.Hi))
	mid, err := span.Mid(a)
	rad, _ := span.Rad(b)
	add(api.Interval{Lo: mid, Hi: rad}, err)
	p, q, err := span.Simplest(a)
	add(api.Interval{Lo: float64(dyad.Top(p)), Hi: float64(dyad.Top(q))}, err)
	add(span.Fraction(p, q))
	return out
}

// TestP1P2: every call ends, whatever it is given, and answers the same when it is asked again.
func TestP1P2(t *testing.T) {
	all := append(intervals(corners()), wrongIntervals()...)
	r := numbers{96}
	for range 50 {
		all = append(all, r.interval(), of(math.Float64frombits(r.word()), math.Float64frombits(r.word())))
	}
	first := make([][]float64, len(all))
	for i, a := range all {
		first[i] = answers(a, all[len(all)-1-i])
	}
	for i, a := range slices.Backward(all) {
		if !slices.EqualFunc(answers(a, all[len(all)-1-i]), first[i], same) {
			t.Errorf("%x and %x are answered otherwise when asked again", a, all[len(all)-1-i])
		}
	}
}
