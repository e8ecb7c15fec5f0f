package angle_test

import (
	"fmt"
	"math"
	"math/big"
	"slices"
	"testing"

	"cusp/angle"
	"cusp/api"
	"cusp/consts"
	"cusp/ieee"
	"cusp/span"
	"cusp/trig"
)

// neighbours tells whether an interval is that of a number that is no float.
func neighbours(s api.Interval) bool { return span.Valid(s) && ieee.Next(s.Lo) == s.Hi }

// TestP6Neighbours: but for 0 no angle is a float.
func TestP6Neighbours(t *testing.T) {
	for _, f := range functions() {
		for _, x := range f.list(all) {
			if s := f.asked(t, x); !neighbours(s) {
				t.Errorf("%s(%x) = %x", f.name, x, s)
			}
		}
	}
	for _, z := range everywhere() {
		if s := argued(t, z); !neighbours(s) {
			t.Errorf("Arg(%x) = %x", z, s)
		}
	}
}

func TestAN3Turned(t *testing.T) {
	for _, f := range functions() {
		for _, x := range append(f.list(all), 0, f.edge) {
			f.check(t, -x, turned(f.asked(t, x)))
		}
	}
	functions()[0].check(t, -inf, turned(functions()[0].asked(t, inf)))
}

func TestAN3Conjugate(t *testing.T) {
	list := everywhere()
	for _, x := range []float64{0, minus, 1, -1, least, -least, most, -most} {
		list = append(list, complex(x, 0), complex(x, minus), complex(0, x), complex(minus, x))
	}
	for _, z := range list {
		checkArg(t, complex(real(z), -imag(z)), turned(argued(t, z)))
	}
}

// TestAN1Rise: no end falls where the number rises.
func TestAN1Rise(t *testing.T) {
	for _, f := range functions() {
		list := append(f.list(all), 0, 1, -1)
		if f.name == "Atan" {
			list = append(list, inf, -inf)
		}
		slices.Sort(list)
		before := api.Interval{Lo: -inf, Hi: -inf}
		for _, x := range list {
			s := f.asked(t, x)
			if s.Lo < before.Lo || s.Hi < before.Hi {
				t.Errorf("%s(%x) = %x, and before %x", f.name, x, s, before)
			}
			before = s
		}
	}
}

// TestAN1Inverse: the tangent, or the sine, of an end lies on that end's side.
func TestAN1Inverse(t *testing.T) {
	quarterTurn := known(consts.HalfPi)
	for i, back := range []func(float64) (api.Interval, api.Errno){trig.Tan, trig.Sin} {
		f := functions()[i]
		for _, x := range f.list(all) {
			s := f.asked(t, x)
			lo, _ := back(s.Lo)
			hi, _ := back(s.Hi)
			// Beyond a quarter turn neither rises.
			if s.Lo > -quarterTurn.Hi && lo.Lo > x || s.Hi < quarterTurn.Hi && hi.Hi < x {
				t.Errorf("%s(%x) = %x: back it is %x to %x", f.name, x, s, lo, hi)
			}
		}
	}
}

// TestAN2Quarters: the angle lies in the number's quarter, above -pi and below pi.
func TestAN2Quarters(t *testing.T) {
	pi, half := known(consts.Pi), known(consts.HalfPi)
	for _, z := range everywhere() {
		quarter := api.Interval{Lo: 0, Hi: half.Hi}
		if real(z) < 0 {
			quarter = api.Interval{Lo: half.Lo, Hi: pi.Hi}
		}
		if imag(z) < 0 {
			quarter = turned(quarter)
		}
		if s := argued(t, z); !span.Within(s, quarter) {
			t.Errorf("Arg(%x) = %x, not in %x", z, s, quarter)
		}
	}
}

// TestAN2QuarterTurns: numbers a quarter turn, or half a turn, apart may have angles as far apart.
func TestAN2QuarterTurns(t *testing.T) {
	pi, half := known(consts.Pi), known(consts.HalfPi)
	for _, z := range everywhere() {
		x, y := math.Abs(real(z)), math.Abs(imag(z))
		s := argued(t, complex(x, y))
		for _, row := range []struct {
			z   complex128
			add api.Interval
		}{{complex(-y, x), half}, {complex(-x, -y), turned(pi)}, {complex(y, -x), turned(half)}} {
			want, _ := span.Add(s, row.add)
			if got := argued(t, row.z); got.Lo > want.Hi || got.Hi < want.Lo {
				t.Errorf("Arg(%x) = %x, want about %x", row.z, got, want)
			}
		}
	}
}

// TestAN2Scaled: a power of two as a factor changes nothing, if no bit is lost.
func TestAN2Scaled(t *testing.T) {
	for _, z := range everywhere() {
		want := argued(t, z)
		for _, e := range []int{-200, -1, 1, 300} {
			x, y := math.Ldexp(real(z), e), math.Ldexp(imag(z), e)
			if math.Ldexp(x, -e) == real(z) && math.Ldexp(y, -e) == imag(z) {
				checkArg(t, complex(x, y), want)
			}
		}
	}
}

// TestAN2OfQuotients: where the quotient of the parts is a float, it is Atan of that.
func TestAN2OfQuotients(t *testing.T) {
	r := numbers{6}
	for range 1000 {
		x := math.Abs(float64(float32(r.float(-60, 60)))) // few binary digits, for products that are floats
		quotient := float64(float32(r.float(-100, 60)))
		want, _ := angle.Atan(quotient)
		checkArg(t, complex(x, x*quotient), want)
	}
}

// TestAN1AsinOfTriangles: of a side of a triangle with a right angle, over the longest one, it may be Arg of both others.
func TestAN1AsinOfTriangles(t *testing.T) {
	for _, side := range [][3]float64{{3, 4, 5}, {7, 24, 25}, {44, 117, 125}, {336, 527, 625}} {
		for i := range 2 {
			sine := tightest(new(big.Float).Quo(exact(side[i], prec), exact(side[2], prec)))
			first, _ := angle.Asin(sine.Lo)
			last, _ := angle.Asin(sine.Hi)
			if want := argued(t, complex(side[1-i], side[i])); first.Lo > want.Lo || last.Hi < want.Hi {
				t.Errorf("Asin(%x) goes from %x to %x, want about %x", sine, first, last, want)
			}
		}
	}
}

// answers are all that the package tells of two numbers.
func answers(a, b float64) string {
	text := ""
	for _, f := range functions() {
		s, err := f.call(a)
		text += fmt.Sprintf("%x %v ", s, err)
	}
	s, err := angle.Span(api.Interval{Lo: a, Hi: b})
	arg, errArg := angle.Arg(complex(a, b))
	return fmt.Sprintf("%s%x %v %x %v", text, s, err, arg, errArg)
}

// TestP1P2: every call ends, whatever it is given, and answers the same when it is asked again.
func TestP1P2(t *testing.T) {
	list := []float64{0, minus, 1, -1, 0.3, least, -least, most, -most, inf, -inf, nan, 700, -700, 1e-20, 1e20, 0x1p-53, 0x1p-26}
	r := numbers{7}
	for range 30 {
		list = append(list, math.Float64frombits(r.word()))
	}
	var first []string
	for _, a := range list {
		for _, b := range list {
			first = append(first, answers(a, b))
		}
	}
	at := len(first)
	for _, a := range slices.Backward(list) {
		for _, b := range slices.Backward(list) {
			at--
			if got := answers(a, b); got != first[at] {
				t.Errorf("%x and %x: %s, and before %s", a, b, got, first[at])
			}
		}
	}
}
