package trig_test

import (
	"fmt"
	"math"
	"slices"
	"testing"

	"cusp/api"
	"cusp/consts"
	"cusp/ieee"
	"cusp/span"
	"cusp/trig"
)

func TestTR3Neighbours(t *testing.T) {
	for _, x := range all() {
		for _, f := range functions() {
			s := f.asked(t, x)
			isFloat := f.name == "Rest" && math.Abs(x) <= math.Pi/4 // which is below a quarter of pi
			if !span.Valid(s) || (s.Lo == s.Hi) != isFloat || s.Lo != s.Hi && ieee.Next(s.Lo) != s.Hi {
				t.Errorf("%s(%x) = %x", f.name, x, s)
			}
		}
	}
}

func TestTR3Turned(t *testing.T) {
	for _, x := range append(all(), 0) {
		for _, f := range functions() {
			want := f.asked(t, x)
			if f.name != "Cos" {
				want, _ = span.Neg(want)
			}
			f.check(t, -x, want)
		}
	}
}

func TestTR3Squares(t *testing.T) {
	for _, x := range append(all(), 0) {
		sine, _ := trig.Sin(x)
		cosine, _ := trig.Cos(x)
		sine, _ = span.Pow(sine, 2)
		cosine, _ = span.Pow(cosine, 2)
		if sum, err := span.Add(sine, cosine); err != api.OK || !span.Has(sum, 1) {
			t.Errorf("of %x the squares come to %x, %v", x, sum, err)
		}
	}
}

// TestTR3Signs: the quarter tells the signs. What is a nought at one end lies on the other side of it.
func TestTR3Signs(t *testing.T) {
	for _, x := range append(all(), 0) {
		quarter, err := trig.Quarter(x)
		if err != api.OK || quarter < 0 || quarter > 3 {
			t.Errorf("Quarter(%x) = %d, %v", x, quarter, err)
		}
		for i, above := range []bool{quarter == 0 || quarter == 1, quarter == 0 || quarter == 3, quarter == 0 || quarter == 2} {
			f := functions()[i]
			if s := f.asked(t, x); above && s.Lo < 0 || !above && s.Hi > 0 {
				t.Errorf("%s(%x) = %x, in quarter %d", f.name, x, s, quarter)
			}
		}
	}
}

// TestTR1Tangent: it may be the sine over the cosine.
func TestTR1Tangent(t *testing.T) {
	for _, x := range all() {
		sine, _ := trig.Sin(x)
		cosine, _ := trig.Cos(x)
		want, _ := trig.Tan(x)
		quotient, err := span.Quo(sine, cosine)
		if _, meet := span.Meet(quotient, want); !meet || err != api.OK {
			t.Errorf("of %x the sine over the cosine is %x, %v, the tangent %x", x, quotient, err, want)
		}
	}
}

// TestTR1RestBounds: no rest is over half of a quarter turn.
func TestTR1RestBounds(t *testing.T) {
	quarterTurn, _ := consts.Tight(consts.HalfPi)
	for _, x := range all() {
		if s := functions()[3].asked(t, x); s.Hi > quarterTurn.Hi/2 || s.Lo < -quarterTurn.Hi/2 {
			t.Errorf("Rest(%x) = %x", x, s)
		}
	}
}

// TestTR1Doubled: the sine of twice a float may be twice the sine times the cosine.
func TestTR1Doubled(t *testing.T) {
	for _, x := range all() {
		if math.Abs(x) > most/2 {
			continue
		}
		sine, _ := trig.Sin(x)
		cosine, _ := trig.Cos(x)
		twice, _ := span.Mul(sine, cosine)
		twice, _ = span.Mul(twice, only(2))
		want, _ := trig.Sin(2 * x)
		if _, meet := span.Meet(twice, want); !meet {
			t.Errorf("of twice %x the sine is %x, and by halves %x", x, want, twice)
		}
	}
}

// answers are all that the package tells of two numbers.
func answers(a, b float64) string {
	text := ""
	for _, f := range functions() {
		s, err := f.call(a)
		text += fmt.Sprintf("%x %v ", s, err)
	}
	for _, w := range waves() {
		s, err := w.call(api.Interval{Lo: a, Hi: b})
		text += fmt.Sprintf("%x %v ", s, err)
	}
	n, err := trig.Quarter(a)
	return fmt.Sprintf("%s%d %v", text, n, err)
}

// TestP1P2: every call ends, whatever it is given, and answers the same when it is asked again.
func TestP1P2(t *testing.T) {
	list := []float64{0, minus, 1, -1, 0.3, least, -least, most, -most, inf, -inf, nan, 700, -700, 1e-20, 1e20, math.Pi, nearest}
	r := numbers{4}
	for range 20 {
		list = append(list, math.Float64frombits(r.word()))
	}
	var first []string
	for _, a := range list {
		for _, b := range list {
			first = append(first, answers(a, b))
		}
	}
	at := len(first)
	for _, a := range slices.Backward(list) {
		for _, b := range slices.Backward(list) {
			at--
			if got := answers(a, b); got != first[at] {
				t.Errorf("%x and %x: %s, and before %s", a, b, got, first[at])
			}
		}
	}
}
