package point_test

import (
	"math"
	"math/big"
	"testing"

	"cusp/api"
	"cusp/point"
)

// atRank32 is the float of 32 bits so many steps above 0.
func atRank32(n int32) float32 {
	if n < 0 {
		return -math.Float32frombits(uint32(-n))
	}
	return math.Float32frombits(uint32(n))
}

// asNumber32 is such a float as a number; an infinity is what would come after the greatest finite one.
func asNumber32(f float32) float64 {
	if math.IsInf(float64(f), 0) {
		return math.Copysign(0x1p128, float64(f))
	}
	return float64(f)
}

// rounded32 is a float rounded to 32 bits, looked for among all of them by what the document says of R.
func rounded32(f float64, mode int) float32 {
	switch {
	case f != f:
		return float32(math.NaN())
	case f == 0 || math.IsInf(f, 0):
		return float32(f)
	}
	low, high := int32(0), int32(0xFF<<23)
	if f < 0 {
		low, high = -high, low
	}
	for high-low > 1 {
		mid := low + (high-low)/2
		if float64(atRank32(mid)) <= f {
			low = mid
		} else {
			high = mid
		}
	}
	switch f {
	case float64(atRank32(low)):
		return atRank32(low)
	case float64(atRank32(high)):
		return atRank32(high)
	}
	half := wide(asNumber32(atRank32(low)))
	half.Add(half, wide(asNumber32(atRank32(high)))).Quo(half, wide(2))
	n := low
	if c := half.Cmp(wide(f)); mode == api.Up || mode == api.Near && (c < 0 || c == 0 && low%2 != 0) {
		n = high
	}
	return float32(math.Copysign(float64(atRank32(n)), f))
}

func wide(f float64) *big.Float { return new(big.Float).SetPrec(2200).SetFloat64(f) }

func same32(a, b float32) bool {
	return math.Float32bits(a) == math.Float32bits(b) || a != a && b != b
}

func checkNarrow(t *testing.T, re, im float64, mode int, wantRe, wantIm float32) {
	t.Helper()
	z, err := point.Narrow(complex(re, im), mode)
	if !same32(real(z), wantRe) || !same32(imag(z), wantIm) || err != api.OK {
		t.Errorf("Narrow(%x, %x, %d) = %x, %v; want %x, %x", re, im, mode, z, err, wantRe, wantIm)
	}
}

// TestPT4Examples: Narrow at the edges of 32 bits.
func TestPT4Examples(t *testing.T) {
	tenth := math.Float32frombits(0x3dcccccc)
	top, small, big32, nought := float32(greatest32), float32(least32), float32(math.Inf(1)), float32(0)
	none := float32(math.Copysign(0, -1))
	checkNarrow(t, 0.1, 0, api.Down, tenth, 0)
	checkNarrow(t, 0.1, -0.1, api.Near, math.Nextafter32(tenth, 1), -math.Nextafter32(tenth, 1))
	checkNarrow(t, 0.1, -0.1, api.Up, math.Nextafter32(tenth, 1), -tenth)
	for _, c := range []struct {
		f              float64
		down, near, up float32
	}{
		{greatest32, top, top, top},
		{0x1.fffffefffffffp127, top, top, big32}, // below the middle of the greatest one and 2^128
		{0x1.ffffffp127, top, big32, big32},      // the middle itself
		{0x1p128, top, big32, big32}, {greatest, top, big32, big32}, {inf, big32, big32, big32},
		{least32, small, small, small}, {0x1.8p-149, small, 2 * small, 2 * small}, {0x1.7ffffffffffffp-149, small, small, 2 * small},
		{0x1p-150, 0, 0, small}, {0x1.0000000000001p-150, 0, small, small}, {0x1.fffffffffffffp-150, 0, small, small},
		{least, 0, 0, small}, {0x1p-1022, 0, 0, small}, {0, 0, 0, 0},
		{1 + 0x1p-24, 1, 1, 1 + 0x1p-23}, {1 + 0x3p-24, 1 + 0x1p-23, 1 + 0x1p-22, 1 + 0x1p-22}, // halves go to the even one
		{0x1.fffffffffffffp-127, 0x1.fffffcp-127, 0x1p-126, 0x1p-126}, // about the least normal one
	} {
		checkNarrow(t, c.f, -c.f, api.Down, c.down, -c.up)
		checkNarrow(t, c.f, -c.f, api.Near, c.near, -c.near)
		checkNarrow(t, -c.f, c.f, api.Up, -c.down, c.up)
	}
	for _, mode := range modes {
		checkNarrow(t, minusZero, 0, mode, none, nought)
		checkNarrow(t, 0, minusZero, mode, nought, none)
		checkNarrow(t, -inf, inf, mode, -big32, big32)
		for _, f := range nans() {
			checkNarrow(t, f, 1, mode, float32(nan), 1)
			checkNarrow(t, inf, f, mode, big32, float32(nan))
		}
	}
	checkNarrow(t, -least, least, api.Up, none, small) // a nought has the sign of what was rounded to it
	checkNarrow(t, -least, least, api.Down, -small, nought)
	checkNarrow(t, -least, least, api.Near, none, nought)
}

// TestPT4P6Search: each part by itself is what a search among all floats of 32 bits finds.
func TestPT4P6Search(t *testing.T) {
	r := numbers{seed: 601}
	for range 60000 {
		re, im := r.float(), r.float()
		if r.below(4) == 0 { // the middle of two neighbours, or one step beside it
			mid := math.Float64frombits(math.Float64bits(re)>>28<<28 | 1<<28)
			re = []float64{mid, math.Nextafter(mid, inf), math.Nextafter(mid, -inf)}[r.below(3)]
		}
		mode := modes[r.below(3)]
		checkNarrow(t, re, im, mode, rounded32(re, mode), rounded32(im, mode))
	}
}

// TestPT4Wide: all floats of 32 bits, as far as a walk with long steps meets them, are the same value in 64.
func TestPT4Wide(t *testing.T) {
	for n := uint64(0); n < 1<<32; n += 65521 {
		f := math.Float32frombits(uint32(n))
		want := float64(f)
		check(t, point.Wide(complex(f, 1)), complex(want, 1), "Wide", f, 1)
		check(t, point.Wide(complex(-2, f)), complex(-2, want), "Wide", -2, f)
		if f == f && wide(want).MinPrec() > 24 {
			t.Fatalf("%x has more than 24 bits", want)
		}
	}
	none := float32(math.Copysign(0, -1))
	check(t, point.Wide(complex(none, 0)), complex(minusZero, 0), "Wide", "-0")
	check(t, point.Wide(complex(0, none)), complex(0, minusZero), "Wide", "-0i")
	check(t, point.Wide(complex(least32, -greatest32)), complex(0x1p-149, -0x1.fffffep127), "Wide", "ends")
	check(t, point.Wide(complex(float32(nan), float32(-inf))), complex(nan, -inf), "Wide", "NaN-Infi")
}

// TestPT4P1Errors: a mode that is none, whatever the value is.
func TestPT4P1Errors(t *testing.T) {
	for _, mode := range wrongModes() {
		for _, z := range values() {
			if w, err := point.Narrow(z, mode); err != api.ErrArg || math.Float32bits(real(w)) != 0 || math.Float32bits(imag(w)) != 0 {
				t.Errorf("Narrow(%v, %d) = %v, %v", z, mode, w, err)
			}
		}
	}
}
