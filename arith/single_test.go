package arith_test

import (
	"math"
	"math/big"
	"testing"

	"cusp/api"
	"cusp/arith"
)

const (
	least32    = math.SmallestNonzeroFloat32 // 2^-149
	greatest32 = math.MaxFloat32
	afterOne32 = 1 + 0x1p-23
)

var noValue32 = complex64(noValue)

func same32(a, b float32) bool {
	return math.Float32bits(a) == math.Float32bits(b) || a != a && b != b
}

func checkSingle(t *testing.T, got, want complex64, what string, of ...any) {
	t.Helper()
	if !same32(real(got), real(want)) || !same32(imag(got), imag(want)) {
		t.Errorf("%s(%x) = %x, want %x", what, of, got, want)
	}
}

// operations are the numbers that Single takes, by their signs.
func operations() map[string]int {
	return map[string]int{"+": api.FuncAdd, "-": api.FuncSub, "*": api.FuncMul, "/": api.FuncDiv}
}

// rounded32 is a number that is not 0 rounded to 32 bits: the library's nearest float, or that one's neighbour where it lies on the wrong side.
func rounded32(v *big.Rat, mode int) float32 {
	near, _ := v.Float32()
	far := 1
	if near < 0 {
		far = -1
	}
	if wide := float64(near); !math.IsInf(wide, 0) {
		far = exact(wide).Cmp(v)
	}
	switch {
	case mode == api.Down && far > 0:
		return math.Nextafter32(near, float32(-inf))
	case mode == api.Up && far < 0:
		return math.Nextafter32(near, float32(inf))
	}
	return near
}

// wantAdd32 is a sum of two parts, as RN2 says it, but rounded to 32 bits.
func wantAdd32(a, b float32, mode int) float32 {
	x, y := float64(a), float64(b)
	if !finite(complex(x, y)) {
		return a + b
	}
	if sum := plus(exact(x), exact(y)); sum.Sign() != 0 {
		return rounded32(sum, mode)
	}
	return float32(wantNought(x, 1, y, 1, mode))
}

// wantSum32 is x*u + y*v over a number above 0, rounded to 32 bits.
func wantSum32(x, u, y, v float64, over *big.Rat, mode int) float32 {
	sum := plus(times(exact(x), exact(u)), times(exact(y), exact(v)))
	if sum.Sign() != 0 {
		return rounded32(sum.Quo(sum, over), mode)
	}
	return float32(wantNought(x, u, y, v, mode))
}

// wantSingle is AR5, word by word.
func wantSingle(f int, a, b complex64, mode int) complex64 {
	x, y, u, v := float64(real(a)), float64(imag(a)), float64(real(b)), float64(imag(b))
	square := exact(1)
	switch f {
	case api.FuncSub:
		return complex(wantAdd32(real(a), -real(b), mode), wantAdd32(imag(a), -imag(b), mode))
	case api.FuncAdd:
		return complex(wantAdd32(real(a), real(b), mode), wantAdd32(imag(a), imag(b), mode))
	}
	if !finite(complex(x, y), complex(u, v)) || f == api.FuncDiv && b == 0 {
		return noValue32
	}
	if f == api.FuncMul {
		return complex(wantSum32(x, u, -y, v, square, mode), wantSum32(x, v, y, u, square, mode))
	}
	square = plus(times(exact(u), exact(u)), times(exact(v), exact(v)))
	return complex(wantSum32(x, u, y, v, square, mode), wantSum32(y, u, -x, v, square, mode))
}

// TestAR5Cases: edges of 32 bits, written out; among them parts that 64 bits would round onto a middle first.
func TestAR5Cases(t *testing.T) {
	m := float32(minusZero)
	huge, top, small := float32(inf), float32(greatest32), float32(least32)
	for _, c := range []struct {
		f              int
		a, b           complex64
		down, near, up complex64
	}{
		{api.FuncAdd, 1 + 2i, 3 - 5i, 4 - 3i, 4 - 3i, 4 - 3i},
		{api.FuncSub, 1 + 2i, 3 - 5i, -2 + 7i, -2 + 7i, -2 + 7i},
		{api.FuncMul, 1 + 2i, 3 + 4i, -5 + 10i, -5 + 10i, -5 + 10i},
		{api.FuncDiv, -5 + 10i, 3 + 4i, 1 + 2i, 1 + 2i, 1 + 2i},
		{api.FuncDiv, 1, 1i, -1i, -1i, -1i},
		{api.FuncDiv, 1, 3, complex(0x1.555554p-2, m), complex(0x1.555556p-2, 0), complex(0x1.555556p-2, 0)},
		// noughts
		{api.FuncAdd, 1 + 1i, -1 - 1i, complex(m, m), 0, 0},
		{api.FuncSub, complex(m, 0), complex(0, 0), complex(m, m), complex(m, 0), complex(m, 0)},
		{api.FuncMul, 1 + 1i, 1 + 1i, complex(m, 2), 2i, 2i},
		{api.FuncMul, complex(m, 0), 0, complex(m, m), complex(m, 0), complex(m, 0)},
		{api.FuncDiv, 1 + 1i, 1 + 1i, complex(1, m), 1, 1},
		// beyond the greatest one, and below the least
		{api.FuncAdd, complex(top, -top), complex(top, -top), complex(top, -huge), complex(huge, -huge), complex(huge, -top)},
		{api.FuncAdd, complex(top, top), complex(0x1p103, 0x1p102), complex(top, top), complex(huge, top), complex(huge, huge)}, // the middle goes to the infinity
		{api.FuncAdd, complex(top, -small), complex(0x1p103, small), complex(top, m), complex(huge, 0), complex(huge, 0)},
		{api.FuncMul, complex(0x1p64, 0), complex(0x1p64, 0x1p63), complex(top, 0x1p127), complex(huge, 0x1p127), complex(huge, 0x1p127)},
		{api.FuncMul, complex(small, 0), complex(0.5, -0.5), complex(0, -small), complex(0, m), complex(small, m)},
		{api.FuncMul, complex(small, 0), complex(0.5+0x1p-24, -0.5-0x1p-24), complex(0, -small), complex(small, -small), complex(small, m)},
		{api.FuncDiv, complex(small, -small), complex(top, 0), complex(0, -small), complex(0, m), complex(small, m)},
		{api.FuncDiv, complex(top, 0), complex(0, small), complex(0, -huge), complex(0, -huge), complex(0, -top)},
		// a hair beside the middle, beyond what 64 bits hold
		{api.FuncAdd, complex(0x1p24, -0x1p24), complex(1, -1), complex(0x1p24, -0x1p24-2), complex(0x1p24, -0x1p24), complex(0x1p24+2, -0x1p24)},
		{api.FuncMul, complex(1, 0x1p-50), complex(afterOne32, -0x1p-50), complex(afterOne32, 0x1p-73), complex(afterOne32, 0x1p-73), complex(1+0x1p-22, 0x1p-73)},
		{api.FuncMul, complex(1+0x1p-12, 0x1p-100), complex(1+0x1p-12, -0x1p-40), complex(1+0x1p-11, -0x1.001p-40), complex(1+0x1p-11+0x1p-23, -0x1.001p-40), complex(1+0x1p-11+0x1p-23, -0x1.000ffep-40)},
		{api.FuncMul, complex(1+0x1p-12, 0x1p-100), complex(1+0x1p-12, 0x1p-40), complex(1+0x1p-11, 0x1.001p-40), complex(1+0x1p-11, 0x1.001p-40), complex(1+0x1p-11+0x1p-23, 0x1.001002p-40)},
		// infinities and NaNs
		{api.FuncAdd, complex(huge, 1), complex(-huge, 1), complex(float32(nan), 2), complex(float32(nan), 2), complex(float32(nan), 2)},
		{api.FuncSub, complex(huge, -huge), complex(1, 1), complex(huge, -huge), complex(huge, -huge), complex(huge, -huge)},
		{api.FuncMul, complex(huge, 1), 1, noValue32, noValue32, noValue32},
		{api.FuncDiv, complex(1, float32(nan)), 1, noValue32, noValue32, noValue32},
		{api.FuncDiv, 1, complex(huge, 0), noValue32, noValue32, noValue32},
		{api.FuncDiv, 1, complex(m, 0), noValue32, noValue32, noValue32},
	} {
		for i, mode := range modes {
			want := [3]complex64{c.down, c.near, c.up}[i]
			checkSingle(t, arith.Single(c.f, c.a, c.b, mode), want, "Single", c.f, c.a, c.b, mode)
			checkSingle(t, wantSingle(c.f, c.a, c.b, mode), want, "what is asked of Single", c.f, c.a, c.b, mode)
		}
	}
}

func edges32() []float32 {
	var out []float32
	for _, f := range bothSigns(0, least32, 3*least32, 0x1p-126, 0x1p-75, 0x1p-25, 1, afterOne32, 3, 0x1p64, greatest32, inf) {
		out = append(out, float32(f))
	}
	return append(out, float32(nan), math.Float32frombits(0x7f800001), math.Float32frombits(0xffc00000))
}

func pairs32(list []float32) []complex64 {
	var out []complex64
	for _, re := range list {
		for _, im := range list {
			out = append(out, complex(re, im))
		}
	}
	return out
}

// TestAR5P6Edges: all operations of values at edges, with a few others.
func TestAR5P6Edges(t *testing.T) {
	few := []float32{0, float32(minusZero), -1, afterOne32, least32, -greatest32}
	others := append(pairs32(few), complex(float32(inf), 1), complex(1, float32(nan)))
	for i, a := range pairs32(edges32()) {
		for j, b := range others {
			mode := modes[(i+j)%3]
			for sign, f := range operations() {
				checkSingle(t, arith.Single(f, a, b, mode), wantSingle(f, a, b, mode), sign, a, b, mode)
				checkSingle(t, arith.Single(f, b, a, mode), wantSingle(f, b, a, mode), sign, b, a, mode)
			}
		}
	}
}

// float32 is finite: of any bits, or near 1.
func (r *numbers) float32() float32 {
	for {
		f := math.Float32frombits(uint32(r.word()))
		if r.below(2) == 0 {
			f = float32(math.Ldexp(float64(int32(r.word())>>r.below(30)), r.below(60)-45))
		}
		if f-f == 0 {
			return f
		}
	}
}

func (r *numbers) value32() complex64 { return complex(r.float32(), r.float32()) }

// TestAR5P6Many: many, in each mode.
func TestAR5P6Many(t *testing.T) {
	r := numbers{seed: 707}
	for range 6000 {
		a, b := r.value32(), r.value32()
		if r.below(3) == 0 {
			b = complex(imag(a), math.Nextafter32(real(a), 0))
		}
		for sign, f := range operations() {
			for _, mode := range modes {
				checkSingle(t, arith.Single(f, a, b, mode), wantSingle(f, a, b, mode), sign, a, b, mode)
			}
		}
	}
}

// TestAR5P6Middles: parts in the middle of two floats of 32 bits, and so near to it that 64 bits do not tell them apart.
func TestAR5P6Middles(t *testing.T) {
	r := numbers{seed: 708}
	hold := func(f int, a, b complex64) {
		t.Helper()
		for _, mode := range modes {
			checkSingle(t, arith.Single(f, a, b, mode), wantSingle(f, a, b, mode), "middle", f, a, b, mode)
		}
	}
	for range 3000 {
		scale := math.Ldexp(float64(1-r.below(2)*2), r.below(60)-30)
		whole := float32(scale * math.Ldexp(float64(1<<23|r.below(1<<23)), -23))
		half := float32(scale * 0x1p-24) // of a unit of whole
		hair := []float32{0, 0x1p-70, -0x1p-70, 0x1p-30}[r.below(4)]
		hold(api.FuncAdd, complex(whole, half), complex(half, whole))
		hold(api.FuncSub, complex(whole, half), complex(half, whole))
		hold(api.FuncMul, complex(whole, half), 1-1i)
		hold(api.FuncDiv, complex(whole, half), 1-1i)
		// The square of a float of 13 bits has at most 26: often a middle, beside which the other product leads by a hair.
		few := float32(1<<12|r.below(1<<12)) * 0x1p-12
		hold(api.FuncMul, complex(few, 0x1p-20), complex(few, hair))
		hold(api.FuncMul, complex(0x1p-20, few), complex(hair, -few))
	}
}

// TestAR5P1Wrong: a number that is no operation of these, or a mode that is none.
func TestAR5P1Wrong(t *testing.T) {
	values := []complex64{0, 1, 1i, complex(float32(inf), 0), noValue32, complex(float32(minusZero), 2)}
	for _, a := range values {
		for _, b := range values {
			for f := -40; f <= 40; f++ {
				if f >= api.FuncAdd && f <= api.FuncDiv {
					continue
				}
				for _, mode := range modes {
					checkSingle(t, arith.Single(f, a, b, mode), noValue32, "Single", f, a, b, mode)
				}
			}
			for _, mode := range wrongModes() {
				for _, f := range []int{api.FuncAdd, api.FuncSub, api.FuncMul, api.FuncDiv, 0, api.FuncPow, math.MinInt} {
					checkSingle(t, arith.Single(f, a, b, mode), noValue32, "Single", f, a, b, mode)
				}
			}
		}
	}
	for _, f := range []int{math.MinInt, math.MaxInt, 1<<32 + api.FuncAdd, 1<<8 + api.FuncMul} {
		checkSingle(t, arith.Single(f, 1, 1, api.Near), noValue32, "Single", f)
	}
}
