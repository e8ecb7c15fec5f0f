package span_test

import (
	"math"
	"testing"

	"cusp/api"
	"cusp/span"
)

// anyFloats are edges, -0 and NaNs.
func anyFloats() []float64 {
	return append(edges(), minusZero, nan, math.Float64frombits(0xFFF0000000000001), math.Float64frombits(0x7FF0000000000001))
}

func TestSP1Valid(t *testing.T) {
	for _, s := range wrongIntervals() {
		if span.Valid(s) {
			t.Errorf("Valid(%x)", s)
		}
	}
	for _, s := range append(intervals(edges()), api.Interval{}, of(-inf, -greatest), of(greatest, inf), alone(greatest), alone(-least)) {
		if !span.Valid(s) {
			t.Errorf("Valid(%x) is false", s)
		}
	}
}

// TestSP1Words: Valid and Of of all pairs of floats, as the words have it.
func TestSP1Words(t *testing.T) {
	for _, lo := range anyFloats() {
		for _, hi := range anyFloats() {
			got, err := span.Of(lo, hi)
			isNaN, wrong := math.IsNaN(lo) || math.IsNaN(hi), lo > hi || lo == inf || hi == -inf
			switch {
			case isNaN:
				checkErr(t, got, err, api.ErrNaN, "Of", lo, hi)
			case wrong:
				checkErr(t, got, err, api.ErrArg, "Of", lo, hi)
			default:
				check(t, got, err, of(lo+0, hi+0), "Of", lo, hi)
			}
			noMinus := !same(lo, minusZero) && !same(hi, minusZero)
			if got := span.Valid(of(lo, hi)); got != (!isNaN && !wrong && noMinus) {
				t.Errorf("Valid(%x, %x) = %v", lo, hi, got)
			}
		}
	}
}

func TestSP1Cases(t *testing.T) {
	got, err := span.Of(minusZero, minusZero)
	check(t, got, err, alone(0), "Of", minusZero, minusZero)
	got, err = span.Of(0, minusZero) // no nought is above the other
	check(t, got, err, alone(0), "Of", 0, minusZero)
	got, err = span.Of(-inf, inf)
	check(t, got, err, span.All(), "Of", -inf, inf)
	got, err = span.Of(inf, nan) // ErrNaN comes first
	checkErr(t, got, err, api.ErrNaN, "Of", inf, nan)
	if all := span.All(); !alike(all, of(-inf, inf)) {
		t.Errorf("All() = %x", all)
	}
}

func TestSP2Has(t *testing.T) {
	for _, s := range intervals(edges()) {
		for _, f := range anyFloats() {
			finite := !math.IsNaN(f) && !math.IsInf(f, 0)
			want := finite && boundOf(s.Lo).cmp(boundOf(f)) <= 0 && boundOf(f).cmp(boundOf(s.Hi)) <= 0
			if got := span.Has(s, f); got != want {
				t.Errorf("Has(%x, %x) = %v", s, f, got)
			}
		}
	}
	if span.Has(span.All(), inf) || span.Has(span.All(), -inf) || span.Has(span.All(), nan) || !span.Has(alone(0), minusZero) {
		t.Error("infinities, NaN or -0")
	}
	for _, s := range wrongIntervals() {
		for _, f := range anyFloats() {
			if span.Has(s, f) {
				t.Errorf("Has(%x, %x)", s, f)
			}
		}
	}
}

// TestSP2Within: no number of the one is beyond the ends of the other.
func TestSP2Within(t *testing.T) {
	all := intervals(edges())
	for _, a := range all {
		for _, b := range all {
			want := boundOf(b.Lo).cmp(boundOf(a.Lo)) <= 0 && boundOf(a.Hi).cmp(boundOf(b.Hi)) <= 0
			if got := span.Within(a, b); got != want {
				t.Errorf("Within(%x, %x) = %v", a, b, got)
			}
		}
	}
}

// TestSP2Meet: what both have lies within both, and a float lies in it just where it lies in both.
func TestSP2Meet(t *testing.T) {
	all := intervals(edges())
	for _, a := range all {
		for _, b := range all {
			got, is := span.Meet(a, b)
			if !is && !alike(got, api.Interval{}) {
				t.Errorf("Meet(%x, %x) = %x, false", a, b, got)
			}
			if is && !(span.Valid(got) && span.Within(got, a) && span.Within(got, b)) {
				t.Errorf("Meet(%x, %x) = %x", a, b, got)
			}
			for _, f := range edges() {
				if in := span.Has(a, f) && span.Has(b, f); in != (is && span.Has(got, f)) {
					t.Errorf("Meet(%x, %x) = %x, %v: %x", a, b, got, is, f)
				}
			}
		}
	}
}

func TestSP2MeetCases(t *testing.T) {
	cases := []struct {
		a, b, want api.Interval
		is         bool
	}{
		{of(0, 2), of(1, 3), of(1, 2), true},
		{of(-inf, 1), of(1, inf), alone(1), true},
		{of(-inf, 1), of(afterOne, inf), api.Interval{}, false},
		{of(-inf, inf), of(-inf, inf), of(-inf, inf), true},
		{of(-inf, -greatest), of(-inf, 0), of(-inf, -greatest), true},
		{of(1, 2), of(-5, 5), of(1, 2), true},
		{of(-1, 0), of(0, 1), alone(0), true},
		{of(-1, -least), of(0, 1), api.Interval{}, false},
	}
	for _, c := range cases {
		for _, swap := range []bool{false, true} {
			if swap {
				c.a, c.b = c.b, c.a
			}
			if got, is := span.Meet(c.a, c.b); !alike(got, c.want) || is != c.is {
				t.Errorf("Meet(%x, %x) = %x, %v", c.a, c.b, got, is)
			}
		}
	}
}

// TestSP2Hull: it holds both, and each of its ends is an end of one of them.
func TestSP2Hull(t *testing.T) {
	all := intervals(edges())
	for _, a := range all {
		for _, b := range all {
			got, err := span.Hull(a, b)
			check(t, got, err, joined([]reach{{boundOf(a.Lo), boundOf(a.Hi)}, {boundOf(b.Lo), boundOf(b.Hi)}}).tightest(), "Hull", a, b)
		}
	}
	got, err := span.Hull(of(-2, -1), of(3, inf))
	check(t, got, err, of(-2, inf), "Hull", "-2 to -1", "3 on")
}

func TestSP2Wrong(t *testing.T) {
	for _, w := range wrongIntervals() {
		for _, s := range append(append(intervals(corners()), api.Interval{}), wrongIntervals()...) {
			if span.Within(w, s) || span.Within(s, w) {
				t.Errorf("Within of %x and %x", w, s)
			}
			for _, pair := range [2][2]api.Interval{{w, s}, {s, w}} {
				if got, is := span.Meet(pair[0], pair[1]); is || !alike(got, api.Interval{}) {
					t.Errorf("Meet(%x) = %x, %v", pair, got, is)
				}
				got, err := span.Hull(pair[0], pair[1])
				checkErr(t, got, err, api.ErrArg, "Hull", pair[0], pair[1])
			}
		}
	}
}
