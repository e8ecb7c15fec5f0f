package expo_test

import (
	"fmt"
	"math"
	"slices"
	"testing"

	"cusp/api"
	"cusp/expo"
	"cusp/ieee"
	"cusp/round"
	"cusp/span"
)

// isFloat tells whether a function of x is a float.
func isFloat(f function, x float64) bool {
	if f.name == "Exp2" {
		return x == math.Trunc(x) && x >= -1074 && x <= 1023
	}
	return x == 0
}

func TestEX3Neighbours(t *testing.T) {
	list := slices.Concat(edges(), hard(), ordinary(), []float64{most, -most})
	for n := -1080.0; n <= 1030; n++ {
		list = append(list, n)
	}
	for _, f := range functions() {
		for _, x := range list {
			s := f.asked(t, x)
			if !span.Valid(s) || (s.Lo == s.Hi) != isFloat(f, x) || s.Lo != s.Hi && ieee.Next(s.Lo) != s.Hi {
				t.Errorf("%s(%x) = %x", f.name, x, s)
			}
		}
	}
}

func TestEX3Rise(t *testing.T) {
	list := slices.Concat(edges(), hard(), ordinary(), []float64{most, -most})
	slices.Sort(list)
	for _, f := range functions() {
		before := api.Interval{Lo: -inf, Hi: -inf}
		for _, x := range list {
			if f.name == "Cosh" && x < 0 {
				continue
			}
			s := f.asked(t, x)
			if s.Lo < before.Lo || s.Hi < before.Hi {
				t.Errorf("%s(%x) = %x, and before %x", f.name, x, s, before)
			}
			before = s
		}
	}
}

func TestEX3Turned(t *testing.T) {
	for _, x := range slices.Concat(edges(), ordinary(), []float64{most}) {
		sinh, _ := expo.Sinh(x)
		turned, _ := span.Neg(sinh)
		if got, err := expo.Sinh(-x); !same(got, turned) || err != api.OK {
			t.Errorf("Sinh(%x) = %x, and that of %x %x", -x, got, x, sinh)
		}
		cosh, _ := expo.Cosh(x)
		if got, err := expo.Cosh(-x); !same(got, cosh) || err != api.OK {
			t.Errorf("Cosh(%x) = %x, and that of %x %x", -x, got, x, cosh)
		}
	}
}

func TestEX3Products(t *testing.T) {
	r := numbers{3}
	count := 0
	for range 3000 {
		// Few binary digits, for sums that are floats.
		x, y := math.Round(r.float(0, 14))/16, math.Round(r.float(0, 14))/64
		if round.Add(x, y, api.Down) != round.Add(x, y, api.Up) {
			continue
		}
		count++
		a, _ := expo.Exp(x)
		b, _ := expo.Exp(y)
		both, _ := expo.Exp(x + y)
		product, _ := span.Mul(a, b)
		if _, meet := span.Meet(product, both); !meet {
			t.Errorf("Exp(%v) times Exp(%v) is %x, and that of the sum %x", x, y, product, both)
		}
	}
	if count < 1000 {
		t.Errorf("only %d sums are floats", count)
	}
}

func TestEX3Inverse(t *testing.T) {
	for _, x := range slices.Concat(edges(), ordinary(), []float64{most}) {
		a, _ := expo.Exp(x)
		b, _ := expo.Exp(-x)
		if product, _ := span.Mul(a, b); !span.Has(product, 1) {
			t.Errorf("Exp(%x) times Exp(%x) is %x", x, -x, product)
		}
	}
}

// answers are all that the package tells of two numbers.
func answers(a, b float64) string {
	text := ""
	for _, f := range functions() {
		s, err := f.call(a)
		text += fmt.Sprintf("%x %v ", s, err)
	}
	s, err := expo.Span(api.Interval{Lo: a, Hi: b})
	return fmt.Sprintf("%s%x %v", text, s, err)
}

// TestP1P2: every call ends, whatever it is given, and answers the same when it is asked again.
func TestP1P2(t *testing.T) {
	list := []float64{0, math.Copysign(0, -1), 1, -1, 0.3, least, -least, most, -most, inf, -inf, nan, 700, -700, 1e-20, 1e20}
	r := numbers{4}
	for range 30 {
		list = append(list, math.Float64frombits(r.word()))
	}
	var first []string
	for _, a := range list {
		for _, b := range list {
			first = append(first, answers(a, b))
		}
	}
	at := len(first)
	for _, a := range slices.Backward(list) {
		for _, b := range slices.Backward(list) {
			at--
			if got := answers(a, b); got != first[at] {
				t.Errorf("%x and %x: %s, and before %s", a, b, got, first[at])
			}
		}
	}
}
