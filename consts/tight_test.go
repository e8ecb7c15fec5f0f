package consts_test

import (
	"math"
	"math/big"
	"testing"

	"cusp/api"
	"cusp/consts"
	"cusp/ieee"
	"cusp/span"
)

func TestCN1TightWrittenOut(t *testing.T) {
	lows := map[int]float64{
		consts.Pi: 3.141592653589793, consts.HalfPi: 1.5707963267948966, consts.TwoPi: 6.283185307179586, consts.E: 2.718281828459045,
		consts.Ln2: 0.6931471805599453, consts.Ln10: 2.3025850929940455, consts.Sqrt2: 1.414213562373095, consts.Golden: 1.6180339887498947,
	}
	for kind, lo := range lows {
		got, err := consts.Tight(kind)
		check(t, got, err, api.Interval{Lo: lo, Hi: math.Nextafter(lo, inf)}, "Tight", kind)
	}
	got, err := consts.Tight(consts.Pi)
	check(t, got, err, api.Interval{Lo: 0x1.921fb54442d18p1, Hi: 0x1.921fb54442d19p1}, "Tight", consts.Pi)
}

func TestCN1P6Tight(t *testing.T) {
	for _, kind := range kinds() {
		got, err := consts.Tight(kind)
		check(t, got, err, tightest(constants()[kind]), "Tight", kind)
	}
}

func TestCN3Neighbours(t *testing.T) {
	for _, kind := range kinds() {
		if s, _ := consts.Tight(kind); ieee.Next(s.Lo) != s.Hi || !span.Valid(s) {
			t.Errorf("Tight(%d) = %x", kind, s)
		}
	}
}

func TestCN1Wrong(t *testing.T) {
	for _, kind := range wrongKinds() {
		if s, err := consts.Tight(kind); !same(s, api.Interval{}) || err != api.ErrArg {
			t.Errorf("Tight(%d) = %x, %v", kind, s, err)
		}
	}
}

func checkTimes(t *testing.T, n int) {
	t.Helper()
	got, err := consts.Times(n)
	want := tightest(float(0).Mul(constants()[consts.HalfPi], float(0).SetInt64(int64(n))))
	check(t, got, err, want, "Times", n)
	// Turned, it is that of -n; the least int has none.
	if n != math.MinInt {
		turned, err := consts.Times(-n)
		check(t, turned, err, api.Interval{Lo: 0 - want.Hi, Hi: 0 - want.Lo}, "Times", -n)
	}
}

func TestCN1TimesNought(t *testing.T) {
	got, err := consts.Times(0)
	check(t, got, err, api.Interval{}, "Times", 0)
}

func TestCN1TimesIsTight(t *testing.T) {
	for n, kind := range map[int]int{1: consts.HalfPi, 2: consts.Pi, 4: consts.TwoPi} {
		want, _ := consts.Tight(kind)
		got, err := consts.Times(n)
		check(t, got, err, want, "Times", n)
	}
}

func TestCN1CN3P6Times(t *testing.T) {
	list := []int{math.MinInt, math.MinInt + 1, math.MaxInt, math.MaxInt - 1}
	for n := range 1500 {
		list = append(list, n)
	}
	for k := range 63 {
		list = append(list, 1<<k-1, 1<<k, 1<<k+1, 3<<k>>1, 1<<62+1<<k)
	}
	r := numbers{1}
	for range 1500 {
		list = append(list, int(r.word()), int(r.word()>>(r.word()%64)))
	}
	for _, n := range list {
		checkTimes(t, n)
	}
}

// TestCN1TimesNearFloats: n so that n halves of pi are very near to a float m * 2^e. Such n and m come of the continued fraction of pi / 2^(e+1).
func TestCN1TimesNearFloats(t *testing.T) {
	count := 0
	for e := -52; e <= 12; e++ {
		x := float(0).SetMantExp(constants()[consts.Pi], -e-1)
		before, last := [2]*big.Int{big.NewInt(0), big.NewInt(1)}, [2]*big.Int{big.NewInt(1), big.NewInt(0)}
		for {
			term, _ := x.Int(nil)
			for i := range last {
				before[i], last[i] = last[i], new(big.Int).Add(before[i], new(big.Int).Mul(term, last[i]))
			}
			if !last[1].IsInt64() || last[0].BitLen() > 53 {
				break
			}
			if n := last[1].Int64(); n > 0 && last[0].Sign() > 0 {
				checkTimes(t, int(n))
				for _, k := range []int64{2, 3, 1000, 1<<20 + 1} {
					if n < math.MaxInt64/k {
						checkTimes(t, int(n*k))
					}
				}
				count++
			}
			x = quo(float(1), float(0).Sub(x, float(0).SetInt(term)))
		}
	}
	if count < 1000 {
		t.Errorf("only %d numbers were tried", count)
	}
}
