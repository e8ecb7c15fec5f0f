package point_test

import (
	"math"
	"slices"
	"testing"

	"cusp/api"
	"cusp/point"
)

// TestPT6Turns: Conj and Neg undo themselves and go in either order; turns add up.
func TestPT6Turns(t *testing.T) {
	r := numbers{seed: 602}
	all := values()
	for range 3000 {
		all = append(all, r.value())
	}
	for _, z := range all {
		check(t, point.Conj(point.Conj(z)), z, "Conj of Conj", z)
		check(t, point.Neg(point.Neg(z)), z, "Neg of Neg", z)
		check(t, point.Neg(point.Conj(z)), point.Conj(point.Neg(z)), "Neg of Conj", z)
		for _, k := range []int{1, 3, -1, 5, -7} {
			twice := point.Turn(point.Turn(z, k), k)
			check(t, twice, point.Neg(z), "Turn twice", z, k)
			check(t, point.Turn(point.Turn(twice, k), k), z, "Turn four times", z, k)
		}
		for j := -5; j <= 5; j++ {
			for k := -5; k <= 5; k++ {
				check(t, point.Turn(point.Turn(z, j), k), point.Turn(z, j+k), "Turn of Turn", z, j, k)
			}
		}
	}
}

// TestPT6Order: of three values Less is an order, and two that it does not set apart are just those that are the same.
func TestPT6Order(t *testing.T) {
	few := []float64{-inf, -1, minusZero, 0, least, inf, nan, math.Float64frombits(0xFFF0000000000001)}
	var all []complex128
	for _, re := range few {
		for _, im := range few {
			all = append(all, complex(re, im))
		}
	}
	for _, a := range all {
		for _, b := range all {
			ab, ba := point.Less(a, b), point.Less(b, a)
			if ab && ba || (!ab && !ba) != point.Same(a, b) {
				t.Errorf("%v and %v: %v, %v, the same: %v", a, b, ab, ba, point.Same(a, b))
			}
			for _, c := range all {
				if ab && point.Less(b, c) && !point.Less(a, c) {
					t.Errorf("%v, %v, %v rise, yet the last is not above the first", a, b, c)
				}
				if point.Same(a, b) && point.Less(a, c) != point.Less(b, c) {
					t.Errorf("%v and %v are the same, yet not before %v", a, b, c)
				}
			}
		}
	}
}

// TestPT6Texts: what is shown is read as the same value.
func TestPT6Texts(t *testing.T) {
	r := numbers{seed: 603}
	all := values()
	for range 20000 {
		all = append(all, r.value())
	}
	for _, z := range all {
		w, err := point.Read(point.Show(z), api.Near)
		checkWithError(t, w, err, z, api.OK, "Read", point.Show(z))
	}
}

// TestPT6Narrow: a value of half the bits stays itself; others come to lie on the side that was asked for.
func TestPT6Narrow(t *testing.T) {
	r := numbers{seed: 604}
	for range 20000 {
		z := complex(math.Float32frombits(uint32(r.word())), math.Float32frombits(uint32(r.word())))
		for _, mode := range modes {
			w, err := point.Narrow(point.Wide(z), mode)
			if !same32(real(w), real(z)) || !same32(imag(w), imag(z)) || err != api.OK {
				t.Errorf("Narrow(Wide(%v), %d) = %v, %v", z, mode, w, err)
			}
		}
	}
	all := values()
	for range 20000 {
		all = append(all, r.value())
	}
	for _, z := range all {
		down, _ := point.Narrow(z, api.Down)
		up, _ := point.Narrow(z, api.Up)
		low, high := point.Wide(down), point.Wide(up)
		if real(low) > real(z) || imag(low) > imag(z) || real(high) < real(z) || imag(high) < imag(z) {
			t.Errorf("%v is narrowed to %v and %v", z, low, high)
		}
	}
}

// TestP2Alone: the same arguments are answered alike, whatever was asked between.
func TestP2Alone(t *testing.T) {
	r := numbers{seed: 605}
	var all []complex128
	for range 300 {
		all = append(all, r.value())
	}
	answers := func(z complex128) []any {
		near, err := point.Narrow(z, api.Near)
		text := point.Show(z)
		back, readErr := point.Read(text, api.Up)
		out := []any{point.Class(z), point.Quadrant(z), math.Float32bits(real(near)), math.Float32bits(imag(near)), err, text, readErr}
		for _, w := range []complex128{back, point.Conj(z), point.Neg(z), point.Turn(z, 3)} {
			out = append(out, point.Show(w), point.Same(z, w), point.Less(z, w))
		}
		return out
	}
	first := make([][]any, len(all))
	for i, z := range all {
		first[i] = answers(z)
	}
	for i := len(all) - 1; i >= 0; i-- {
		if again := answers(all[i]); !slices.Equal(again, first[i]) {
			t.Errorf("%v: %v, then %v", all[i], first[i], again)
		}
	}
}
