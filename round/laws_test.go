package round_test

import (
	"math"
	"testing"

	"cusp/api"
	"cusp/ieee"
	"cusp/round"
)

// unary, binary, ternary are the calls with a mode, by their names.
func unary() map[string]func(a float64, mode int) float64 {
	return map[string]func(a float64, mode int) float64{"Sqrt": round.Sqrt, "Whole": round.Whole}
}

func binary() map[string]func(a, b float64, mode int) float64 {
	return map[string]func(a, b float64, mode int) float64{"Add": round.Add, "Sub": round.Sub, "Mul": round.Mul, "Div": round.Div, "Hypot": round.Hypot}
}

func anyFloats() []float64 { return append(edges(), nans()...) }

func TestRN1Valid(t *testing.T) {
	for _, mode := range modes {
		if err := round.Valid(mode); err != api.OK {
			t.Errorf("Valid(%d) = %v", mode, err)
		}
	}
	for _, mode := range wrongModes() {
		if err := round.Valid(mode); err != api.ErrArg {
			t.Errorf("Valid(%d) = %v", mode, err)
		}
	}
}

// TestRN1P1WrongMode: of a mode that is none every call answers a NaN, whatever the floats are.
func TestRN1P1WrongMode(t *testing.T) {
	for _, mode := range wrongModes() {
		for _, a := range anyFloats() {
			for name, call := range unary() {
				check(t, call(a, mode), nan, name, mode, a)
			}
			for _, b := range anyFloats() {
				for name, call := range binary() {
					check(t, call(a, b, mode), nan, name, mode, a, b)
				}
			}
		}
		for _, a := range corners() {
			for _, b := range corners() {
				for _, c := range append(corners(), nan) {
					check(t, round.Fma(a, b, c, mode), nan, "Fma", mode, a, b, c)
				}
			}
		}
	}
}

// ordered holds what a call answers in the three modes against RN6.
func ordered(t *testing.T, name string, call func(mode int) float64, of ...float64) {
	t.Helper()
	down, near, up := call(api.Down), call(api.Near), call(api.Up)
	if down != down || near != near || up != up {
		if down == down || near == near || up == up {
			t.Errorf("%s(%x): %x, %x, %x: a NaN in some modes alone", name, of, down, near, up)
		}
		return
	}
	if !(down <= near && near <= up) {
		t.Errorf("%s(%x): %x, %x, %x do not rise", name, of, down, near, up)
	}
	if down != up && (ieee.Next(down) != up || near != down && near != up) {
		t.Errorf("%s(%x): %x, %x, %x are no neighbours", name, of, down, near, up)
	}
}

// TestRN6Order: Down, Near and Up rise, and are alike or neighbours. (Whole numbers are no neighbours, so of Whole only the order is asked.)
func TestRN6Order(t *testing.T) {
	for _, a := range anyFloats() {
		ordered(t, "Sqrt", func(mode int) float64 { return round.Sqrt(a, mode) }, a)
		down, near, up := round.Whole(a, api.Down), round.Whole(a, api.Near), round.Whole(a, api.Up)
		if a == a && !(down <= near && near <= up && down <= a && a <= up) {
			t.Errorf("Whole(%x): %x, %x, %x", a, down, near, up)
		}
		for _, b := range anyFloats() {
			for name, call := range binary() {
				ordered(t, name, func(mode int) float64 { return call(a, b, mode) }, a, b)
			}
		}
	}
	for _, a := range append(corners(), nan) {
		for _, b := range corners() {
			for _, c := range corners() {
				ordered(t, "Fma", func(mode int) float64 { return round.Fma(a, b, c, mode) }, a, b, c)
			}
		}
	}
}

// TestRN6Exact: where the exact value is a float, it is answered in every mode.
func TestRN6Exact(t *testing.T) {
	r := numbers{7}
	for range 3000 {
		a, b, c := float64(r.below(1<<26)-1<<25), float64(r.below(1<<26)-1<<25), float64(r.below(1<<40))
		scale := math.Ldexp(1, r.below(800)-400)
		if b == 0 {
			b = 1
		}
		for _, mode := range modes {
			check(t, round.Add(a*scale, b*scale, mode)+0, (a+b)*scale+0, "Add", mode, a, b)
			check(t, round.Sub(a*scale, b*scale, mode)+0, (a-b)*scale+0, "Sub", mode, a, b)
			check(t, round.Mul(a*scale, b, mode), a*b*scale, "Mul", mode, a, b)
			check(t, round.Div(a*b*scale, b, mode)+0, a*scale+0, "Div", mode, a, b)
			check(t, round.Sqrt(a*scale*a*scale, mode), math.Abs(a*scale), "Sqrt", mode, a)
			check(t, round.Fma(a, b, c, mode)+0, a*b+c+0, "Fma", mode, a, b, c)
			check(t, round.Hypot(3*a*scale, 4*a*scale, mode), 5*math.Abs(a*scale), "Hypot", mode, a)
			check(t, round.Whole(a, mode), a, "Whole", mode, a)
		}
	}
}

// TestRN6Exchanged: sums, products, roots of two squares do not hang on the order, bit by bit.
func TestRN6Exchanged(t *testing.T) {
	for _, mode := range modes {
		for _, a := range anyFloats() {
			for _, b := range anyFloats() {
				check(t, round.Add(a, b, mode), round.Add(b, a, mode), "Add, exchanged", mode, a, b)
				check(t, round.Mul(a, b, mode), round.Mul(b, a, mode), "Mul, exchanged", mode, a, b)
				check(t, round.Hypot(a, b, mode), round.Hypot(b, a, mode), "Hypot, exchanged", mode, a, b)
			}
		}
		for _, a := range append(corners(), nan) {
			for _, b := range append(corners(), nan) {
				for _, c := range corners() {
					check(t, round.Fma(a, b, c, mode), round.Fma(b, a, c, mode), "Fma, exchanged", mode, a, b, c)
				}
			}
		}
	}
}

// turned holds what comes of turned signs, rounded the other way, against what is turned itself. A sum that comes to 0 is +0 by Near, turned or not, unless all are noughts of one sign: RN2 says so.
func turned(t *testing.T, got, plain float64, cancels bool, name string, mode int, of ...float64) {
	t.Helper()
	if cancels && mode == api.Near && got == 0 && plain == 0 {
		return
	}
	check(t, got, -plain, name+", turned", mode, of...)
}

func TestRN6Turned(t *testing.T) {
	for _, mode := range modes {
		other := otherWay(mode)
		for _, a := range anyFloats() {
			turned(t, round.Whole(-a, other), round.Whole(a, mode), false, "Whole", mode, a)
			for _, b := range anyFloats() {
				cancels := math.Signbit(a) != math.Signbit(b)
				turned(t, round.Add(-a, -b, other), round.Add(a, b, mode), cancels, "Add", mode, a, b)
				turned(t, round.Sub(-a, -b, other), round.Sub(a, b, mode), !cancels, "Sub", mode, a, b)
				turned(t, round.Mul(-a, b, other), round.Mul(a, b, mode), false, "Mul", mode, a, b)
				turned(t, round.Mul(a, -b, other), round.Mul(a, b, mode), false, "Mul", mode, a, b)
				check(t, round.Mul(-a, -b, mode), round.Mul(a, b, mode), "Mul, twice turned", mode, a, b)
				turned(t, round.Div(-a, b, other), round.Div(a, b, mode), false, "Div", mode, a, b)
				turned(t, round.Div(a, -b, other), round.Div(a, b, mode), false, "Div", mode, a, b)
				check(t, round.Div(-a, -b, mode), round.Div(a, b, mode), "Div, twice turned", mode, a, b)
				check(t, round.Hypot(-a, b, mode), round.Hypot(a, b, mode), "Hypot, turned", mode, a, b)
				check(t, round.Hypot(a, -b, mode), round.Hypot(a, b, mode), "Hypot, turned", mode, a, b)
			}
		}
		for _, a := range corners() {
			for _, b := range corners() {
				for _, c := range corners() {
					cancels := (math.Signbit(a) != math.Signbit(b)) != math.Signbit(c)
					turned(t, round.Fma(-a, b, -c, other), round.Fma(a, b, c, mode), cancels, "Fma", mode, a, b, c)
					check(t, round.Fma(-a, -b, c, mode), round.Fma(a, b, c, mode), "Fma, twice turned", mode, a, b, c)
				}
			}
		}
	}
	for _, a := range anyFloats() {
		for _, b := range anyFloats() {
			check(t, round.Rest(-a, b), -round.Rest(a, b), "Rest, turned", 0, a, b)
			check(t, round.Rest(a, -b), round.Rest(a, b), "Rest, b turned", 0, a, b)
		}
	}
}

// TestP2Alone: what a call answers hangs on its arguments alone, not on the calls before it.
func TestP2Alone(t *testing.T) {
	ask := func() []float64 {
		var out []float64
		for _, mode := range []int{api.Down, api.Near, api.Up, 0} {
			for _, a := range corners() {
				out = append(out, round.Sqrt(a, mode), round.Whole(a, mode))
				for _, b := range corners() {
					out = append(out, round.Add(a, b, mode), round.Sub(a, b, mode), round.Mul(a, b, mode), round.Div(a, b, mode),
						round.Hypot(a, b, mode), round.Fma(a, b, a, mode), round.Rest(a, b))
				}
			}
		}
		return out
	}
	first, again := ask(), ask()
	for i := range first {
		if !same(first[i], again[i]) {
			t.Fatalf("answer %d: %x, then %x", i, first[i], again[i])
		}
	}
}
