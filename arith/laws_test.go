package arith_test

import (
	"testing"

	"cusp/api"
	"cusp/arith"
	"cusp/round"
)

// sample is values at edges, and others.
func sample(seed uint64, many int) []complex128 {
	r := numbers{seed: seed}
	out := pairs([]float64{0, minusZero, 1, -afterOne, least, -greatest, inf, nan})
	for range many {
		out = append(out, r.value(), r.small())
	}
	return out
}

// TestAR4Exchanged: Mul and Add do not hang on the order, bit by bit.
func TestAR4Exchanged(t *testing.T) {
	all := sample(709, 40)
	for _, a := range all {
		for _, b := range all {
			for _, mode := range modes {
				check(t, arith.Mul(a, b, mode), arith.Mul(b, a, mode), "Mul, exchanged", a, b, mode)
				check(t, arith.Add(a, b, mode), arith.Add(b, a, mode), "Add, exchanged", a, b, mode)
			}
		}
	}
}

func conj(z complex128) complex128 { return complex(real(z), -imag(z)) }

// alikeButNoughts: NaNs are one, and so are noughts.
func alikeButNoughts(z, w complex128) bool {
	return (same(real(z), real(w)) || real(z) == real(w)) && (same(imag(z), imag(w)) || imag(z) == imag(w))
}

// TestAR4Conjugates: of conjugates comes the conjugate, to the nearest, but for noughts.
func TestAR4Conjugates(t *testing.T) {
	all := sample(710, 30)
	for name, call := range map[string]func(a, b complex128, mode int) complex128{"Add": arith.Add, "Sub": arith.Sub, "Mul": arith.Mul, "Quo": arith.Quo} {
		for _, a := range all {
			for _, b := range all {
				if got, want := call(conj(a), conj(b), api.Near), conj(call(a, b, api.Near)); !alikeButNoughts(got, want) {
					t.Errorf("%s of the conjugates of %x and %x: %x, want %x", name, a, b, got, want)
				}
			}
		}
	}
	for _, a := range all {
		for n := -6; n <= 6; n++ {
			if got, want := arith.Power(conj(a), n), conj(arith.Power(a, n)); !alikeButNoughts(got, want) {
				t.Errorf("Power of the conjugate of %x, %d: %x, want %x", a, n, got, want)
			}
		}
	}
}

// TestAR4Norm: Norm lies between the squares of what Abs is at least and at most.
func TestAR4Norm(t *testing.T) {
	for _, z := range append(sample(711, 2000), pairs(edges())...) {
		low, high := arith.Abs(z, api.Down), arith.Abs(z, api.Up)
		low, high = round.Mul(low, low, api.Down), round.Mul(high, high, api.Up)
		for _, mode := range modes {
			if n := arith.Norm(z, mode); n < low || n > high || n != n && high == high {
				t.Errorf("Norm(%x, %d) = %x, not from %x to %x", z, mode, n, low, high)
			}
		}
	}
}

// TestAR4QuoOfMul: a product without rounding, divided, is the number again.
func TestAR4QuoOfMul(t *testing.T) {
	r := numbers{seed: 712}
	for range 4000 {
		a, b := r.small(), r.small()
		if b == 0 {
			b = 1i
		}
		for _, mode := range modes {
			if got := arith.Quo(arith.Mul(a, b, mode), b, mode); !alikeButNoughts(got, a) {
				t.Errorf("Quo(Mul(%v, %v), %v) = %v in mode %d", a, b, b, got, mode)
			}
		}
	}
}

// TestP6Order: Down is not above Near, nor that above Up, part by part; they are alike where the exact value is a float.
func TestP6Order(t *testing.T) {
	all := sample(713, 30)
	r := numbers{seed: 714}
	for name, call := range map[string]func(a, b complex128, mode int) complex128{"Add": arith.Add, "Sub": arith.Sub, "Mul": arith.Mul, "Quo": arith.Quo} {
		for _, a := range all {
			for _, b := range all {
				down, near, up := call(a, b, api.Down), call(a, b, api.Near), call(a, b, api.Up)
				if real(down) > real(near) || real(near) > real(up) || imag(down) > imag(near) || imag(near) > imag(up) {
					t.Errorf("%s(%x, %x): %x, %x, %x do not rise", name, a, b, down, near, up)
				}
			}
		}
		for range 200 {
			a, b := r.small(), r.small()
			if name != "Quo" && call(a, b, api.Down) != call(a, b, api.Up) {
				t.Errorf("%s(%v, %v) is rounded", name, a, b)
			}
		}
	}
}

// TestP1WrongMode: with a mode that is none there is a NaN in each part, whatever the values are.
func TestP1WrongMode(t *testing.T) {
	few := []complex128{0, 1, complex(minusZero, inf), complex(nan, 1), complex(-greatest, least)}
	for _, mode := range wrongModes() {
		for _, a := range pairs(edges()) {
			checkFloat(t, arith.Abs(a, mode), nan, "Abs", a, mode)
			checkFloat(t, arith.Norm(a, mode), nan, "Norm", a, mode)
			check(t, arith.Sum([]complex128{a}, mode), noValue, "Sum", a, mode)
			for _, b := range few {
				check(t, arith.Add(a, b, mode), noValue, "Add", a, b, mode)
				check(t, arith.Sub(a, b, mode), noValue, "Sub", a, b, mode)
				check(t, arith.Mul(a, b, mode), noValue, "Mul", a, b, mode)
				check(t, arith.Quo(a, b, mode), noValue, "Quo", a, b, mode)
			}
		}
		check(t, arith.Sum(nil, mode), noValue, "Sum", nil, mode)
		check(t, arith.Sum(make([]complex128, api.MaxList+1), mode), noValue, "Sum", "too many", mode)
	}
}

// answers are all that the package tells of two values.
func answers(a, b complex128) []complex128 {
	out := []complex128{arith.Plain(a, b), arith.Power(a, 5), arith.Power(b, -3)}
	for _, mode := range append(modes[:], 0) {
		out = append(out, arith.Add(a, b, mode), arith.Sub(a, b, mode), arith.Mul(a, b, mode), arith.Quo(a, b, mode), arith.Sum([]complex128{a, b, a}, mode))
		out = append(out, complex(arith.Abs(a, mode), arith.Norm(b, mode)))
		for f := api.FuncPow; f >= api.FuncAdd; f-- {
			out = append(out, complex128(arith.Single(f, complex64(a), complex64(b), mode)))
		}
	}
	return out
}

// TestP2Alone: the same arguments are answered alike, whatever was asked between, and a list stays as it is.
func TestP2Alone(t *testing.T) {
	all := sample(715, 100)
	first := make([][]complex128, len(all))
	for i, a := range all {
		first[i] = answers(a, all[len(all)-1-i])
	}
	for i := len(all) - 1; i >= 0; i-- {
		for k, again := range answers(all[i], all[len(all)-1-i]) {
			check(t, again, first[i][k], "asked again", all[i], k)
		}
	}
	list := append([]complex128(nil), all...)
	for _, mode := range append(modes[:], 7) {
		arith.Sum(list, mode)
		for i, z := range list {
			check(t, z, all[i], "an argument of Sum", i)
		}
	}
}
