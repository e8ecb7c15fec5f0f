package ieee_test

import (
	"math"
	"math/big"
	"testing"

	"cusp/api"
	"cusp/ieee"
)

// TestIE3MakeEdges: the answers of Down, Near and Up for m * 2^e and for -m * 2^e, written out.
func TestIE3MakeEdges(t *testing.T) {
	const all = math.MaxUint64
	cases := []struct {
		m              uint64
		e              int
		down, near, up float64
	}{
		{1, 0, 1, 1, 1}, {3, 1, 6, 6, 6}, {5, -1, 2.5, 2.5, 2.5},
		// Halfway between two floats: the last bit of the nearest one is 0.
		{1<<53 + 1, 0, 0x1p53, 0x1p53, 0x1p53 + 2}, {1<<53 + 3, 0, 0x1p53 + 2, 0x1p53 + 4, 0x1p53 + 4},
		{1<<63 + 1<<10, -63, 1, 1, 0x1.0000000000001p0}, {1<<63 + 1<<10 - 1, -63, 1, 1, 0x1.0000000000001p0}, {1<<63 + 1<<10 + 1, -63, 1, 0x1.0000000000001p0, 0x1.0000000000001p0},
		{1<<63 + 3<<10, -63, 0x1.0000000000001p0, 0x1.0000000000002p0, 0x1.0000000000002p0},
		// A carry leads to the next power of two.
		{1<<54 - 1, 0, 0x1p54 - 2, 0x1p54, 0x1p54}, {all, 0, 0x1p64 - 0x1p11, 0x1p64, 0x1p64}, {all, -1074 - 63, least, 2 * least, 2 * least},
		// Below the least float, and about it.
		{1, -1074, least, least, least}, {1, -1075, 0, 0, least}, {1, -1076, 0, 0, least}, {3, -1076, 0, least, least}, {3, -1075, least, 2 * least, 2 * least}, {5, -1075, 2 * least, 2 * least, 3 * least},
		{1 << 63, -1075 - 63, 0, 0, least}, {1<<63 + 1, -1075 - 63, 0, least, least}, {1<<63 - 1, -1075 - 63, 0, 0, least},
		{all, -1138, 0, least, least}, {all, -1139, 0, 0, least}, {all, -1140, 0, 0, least}, {all, -1300, 0, 0, least},
		{1, -5000, 0, 0, least}, {1, math.MinInt, 0, 0, least}, {all, math.MinInt, 0, 0, least}, {1, math.MinInt + 63, 0, 0, least}, {1, math.MinInt32, 0, 0, least},
		// About 2^-1022.
		{1, -1022, leastNormal, leastNormal, leastNormal}, {1<<52 - 1, -1074, topSmall, topSmall, topSmall}, {1<<53 - 1, -1075, topSmall, leastNormal, leastNormal}, {1<<53 - 3, -1075, topSmall - least, topSmall - least, topSmall}, {1<<53 + 1, -1075, leastNormal, leastNormal, leastNormal + least},
		{all, -1022 - 64, topSmall, leastNormal, leastNormal},
		// Beyond the greatest float, and about it.
		{1, 1023, 0x1p1023, 0x1p1023, 0x1p1023}, {1<<53 - 1, 971, greatest, greatest, greatest},
		{1<<54 - 1, 970, greatest, inf, inf}, {1<<64 - 1<<10, 960, greatest, inf, inf}, {1<<64 - 1<<10 - 1, 960, greatest, greatest, inf}, {1<<64 - 1<<11 + 1, 960, greatest, greatest, inf}, {all, 960, greatest, inf, inf},
		{1, 1024, greatest, inf, inf}, {1 << 63, 961, greatest, inf, inf}, {all, 961, greatest, inf, inf}, {1, 1100, greatest, inf, inf}, {all, 1101, greatest, inf, inf},
		{1, 5000, greatest, inf, inf}, {1, math.MaxInt, greatest, inf, inf}, {all, math.MaxInt, greatest, inf, inf}, {1, math.MaxInt32, greatest, inf, inf},
		// 0 has the sign that is asked for, in every mode.
		{0, 0, 0, 0, 0}, {0, 77, 0, 0, 0}, {0, math.MaxInt, 0, 0, 0}, {0, math.MinInt, 0, 0, 0},
	}
	for _, c := range cases {
		wantMake(t, false, c.m, c.e, [3]float64{c.down, c.near, c.up})
		wantMake(t, true, c.m, c.e, [3]float64{-c.up, -c.near, -c.down})
	}
}

func wantMake(t *testing.T, neg bool, m uint64, e int, want [3]float64) {
	t.Helper()
	for i, mode := range [3]int{api.Down, api.Near, api.Up} {
		if got := ieee.Make(neg, m, e, mode); !bitsAre(got, want[i]) {
			t.Errorf("Make(%v, %d, %d, mode %d) = %x, want %x", neg, m, e, mode, got, want[i])
		}
	}
}

// TestIE3MakeMode: a mode that is none makes a NaN, whatever is rounded.
func TestIE3MakeMode(t *testing.T) {
	for _, mode := range []int{0, 4, 5, -1, -2, 1 << 32, 1<<32 + 2, math.MaxInt, math.MinInt} {
		for _, m := range []uint64{0, 1, 1 << 53, math.MaxUint64} {
			for _, e := range []int{0, -1074, 971, math.MaxInt, math.MinInt} {
				for _, neg := range []bool{false, true} {
					if got := ieee.Make(neg, m, e, mode); got == got {
						t.Errorf("Make(%v, %d, %d, mode %d) = %x", neg, m, e, mode, got)
					}
				}
			}
		}
	}
}

// TestP6Make holds Make, at every exponent, against numbers rounded by another way.
func TestP6Make(t *testing.T) {
	list := []uint64{1, 2, 3, 5, 6, 7, 0x5555555555555555, 0xAAAAAAAAAAAAAAAA}
	for _, k := range []uint{31, 51, 52, 53, 54, 55, 62, 63} {
		p := uint64(1) << k
		list = append(list, p-2, p-1, p, p+1, p+2, p+p/2, p|p>>53, p|3*(p>>54))
	}
	for k := range uint64(12) {
		list = append(list, -(uint64(1) << k), -(uint64(1)<<k)-1, -(uint64(1)<<k)+1)
	}
	seed := uint64(7)
	for range 40 {
		seed = seed*6364136223846793005 + 1442695040888963407
		list = append(list, seed, seed>>10, seed>>31)
	}
	for _, m := range list {
		if m == 0 {
			continue
		}
		for e := -1145; e <= 1030; e++ {
			down, near, up := reference(m, e)
			wantMake(t, false, m, e, [3]float64{down, near, up})
			wantMake(t, true, m, e, [3]float64{-up, -near, -down})
		}
	}
}

// reference is m * 2^e rounded down, to the nearest and up, m not 0.
func reference(m uint64, e int) (float64, float64, float64) {
	x := new(big.Float).SetUint64(m)
	x.SetMantExp(x, e)
	near, how := x.Float64()
	switch how {
	case big.Above:
		return math.Nextafter(near, 0), near, near
	case big.Below:
		return near, near, math.Nextafter(near, math.Inf(1))
	}
	return near, near, near
}
