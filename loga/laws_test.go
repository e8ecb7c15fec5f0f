package loga_test

import (
	"fmt"
	"math"
	"slices"
	"testing"

	"cusp/api"
	"cusp/expo"
	"cusp/ieee"
	"cusp/loga"
	"cusp/round"
	"cusp/span"
)

func TestLG3Neighbours(t *testing.T) {
	for _, f := range functions() {
		for _, x := range f.list(edges, hard, ordinary) {
			s, err := f.call(x)
			if err != api.OK || !span.Valid(s) || (s.Lo == s.Hi) != f.isFloat(x) || s.Lo != s.Hi && ieee.Next(s.Lo) != s.Hi {
				t.Errorf("%s(%x) = %x, %v", f.name, x, s, err)
			}
		}
	}
	for _, z := range slices.Concat(circle(), tiny(), plane(), []complex128{1, -1, 1i, -1i}) {
		s, err := loga.Abs(z)
		if err != api.OK || !span.Valid(s) || (s.Lo == s.Hi) != isUnit(z) || s.Lo != s.Hi && ieee.Next(s.Lo) != s.Hi {
			t.Errorf("Abs(%x) = %x, %v", z, s, err)
		}
	}
}

func TestLG3PowersOfTwo(t *testing.T) {
	for e := -1074; e <= 1023; e++ {
		functions()[2].check(t, math.Ldexp(1, e), api.Interval{Lo: float64(e) + 0, Hi: float64(e) + 0})
	}
}

func TestLG3Rise(t *testing.T) {
	for _, f := range functions() {
		list := f.list(edges, hard, ordinary)
		slices.Sort(list)
		before := api.Interval{Lo: -inf, Hi: -inf}
		for _, x := range list {
			s, _ := f.call(x)
			if s.Lo < before.Lo || s.Hi < before.Hi {
				t.Errorf("%s(%x) = %x, and before %x", f.name, x, s, before)
			}
			before = s
		}
	}
}

// TestLG1Inverse: of an inverse it is turned; e, or 2, to the logarithm may be the number.
func TestLG1Inverse(t *testing.T) {
	for _, x := range functions()[0].list(edges, hard, ordinary) {
		s, _ := loga.Log(x)
		if powers, _ := expo.Span(s); !span.Has(powers, x) {
			t.Errorf("Log(%x) = %x: e to it is %x", x, s, powers)
		}
		// Both ends of Log2 are told by Exp2, which rises.
		two, _ := loga.Log2(x)
		lo, _ := expo.Exp2(two.Lo)
		hi, _ := expo.Exp2(two.Hi)
		if lo.Lo > x || hi.Hi < x {
			t.Errorf("Log2(%x) = %x: 2 to it is %x to %x", x, two, lo, hi)
		}
	}
	for e := -1022; e <= 1022; e++ {
		s, _ := loga.Log(math.Ldexp(1, e))
		want, _ := span.Neg(s)
		functions()[0].check(t, math.Ldexp(1, -e), want)
	}
}

// TestLG1Log1p: where 1 + x is a float, it is Log of that.
func TestLG1Log1p(t *testing.T) {
	count := 0
	for _, x := range functions()[1].list(edges, hard, ordinary) {
		if round.Add(1, x, api.Down) != round.Add(1, x, api.Up) {
			continue
		}
		want, _ := loga.Log(1 + x)
		functions()[1].check(t, x, want)
		count++
	}
	if count < 300 {
		t.Errorf("only %d sums are floats", count)
	}
}

// TestLG1Products: the logarithms of two numbers and of their product, where that is a float, may add up.
func TestLG1Products(t *testing.T) {
	r := numbers{3}
	for range 2000 {
		x, y := math.Abs(float64(float32(r.float(-100, 100)))), math.Abs(float64(float32(r.float(-100, 100)))) // few binary digits, for products that are floats
		a, _ := loga.Log(x)
		b, _ := loga.Log(y)
		both, _ := loga.Log(x * y)
		sum, _ := span.Add(a, b)
		if _, meet := span.Meet(sum, both); !meet {
			t.Errorf("Log(%x) and Log(%x) are %x, and that of the product %x", x, y, sum, both)
		}
	}
}

// answers are all that the package tells of two numbers.
func answers(a, b float64) string {
	text := ""
	for _, f := range functions() {
		s, err := f.call(a)
		text += fmt.Sprintf("%x %v ", s, err)
	}
	s, err := loga.Span(api.Interval{Lo: a, Hi: b})
	abs, errAbs := loga.Abs(complex(a, b))
	return fmt.Sprintf("%s%x %v %x %v", text, s, err, abs, errAbs)
}

// TestP1P2: every call ends, whatever it is given, and answers the same when it is asked again.
func TestP1P2(t *testing.T) {
	list := []float64{0, math.Copysign(0, -1), 1, -1, 0.3, least, -least, most, -most, inf, -inf, nan, 700, -700, 1e-20, 1e20}
	r := numbers{4}
	for range 30 {
		list = append(list, math.Float64frombits(r.word()))
	}
	var first []string
	for _, a := range list {
		for _, b := range list {
			first = append(first, answers(a, b))
		}
	}
	at := len(first)
	for _, a := range slices.Backward(list) {
		for _, b := range slices.Backward(list) {
			at--
			if got := answers(a, b); got != first[at] {
				t.Errorf("%x and %x: %s, and before %s", a, b, got, first[at])
			}
		}
	}
}
