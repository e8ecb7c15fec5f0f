package consts_test

import (
	"math"
	"math/big"
	"strings"
	"testing"

	"cusp/api"
	"cusp/consts"
)

// written is a constant with n digits behind the point, cut.
func written(kind, n int) string {
	unit := float(0).SetInt(new(big.Int).Exp(big.NewInt(10), big.NewInt(int64(n)), nil))
	units, _ := float(0).Mul(constants()[kind], unit).Int(nil)
	text := units.String()
	text = strings.Repeat("0", max(0, n+1-len(text))) + text
	if n == 0 {
		return text
	}
	return text[:len(text)-n] + "." + text[len(text)-n:]
}

func checkDigits(t *testing.T, kind, n int, want string) {
	t.Helper()
	if got, err := consts.Digits(kind, n); got != want || err != api.OK {
		t.Errorf("Digits(%d, %d) = %q, %v, want %q", kind, n, got, err, want)
	}
}

func TestCN2WrittenOut(t *testing.T) {
	for _, c := range []struct {
		kind, n int
		want    string
	}{
		{consts.Pi, 5, "3.14159"}, {consts.Pi, 0, "3"}, {consts.Pi, 1, "3.1"}, {consts.Pi, 4, "3.1415"}, {consts.Pi, 20, "3.14159265358979323846"},
		{consts.E, 0, "2"}, {consts.E, 1, "2.7"}, {consts.E, 10, "2.7182818284"}, {consts.HalfPi, 0, "1"}, {consts.HalfPi, 6, "1.570796"}, {consts.TwoPi, 0, "6"}, {consts.TwoPi, 6, "6.283185"},
		{consts.Ln2, 0, "0"}, {consts.Ln2, 1, "0.6"}, {consts.Ln2, 2, "0.69"}, {consts.Ln2, 7, "0.6931471"}, {consts.Ln10, 0, "2"}, {consts.Ln10, 5, "2.30258"},
		{consts.Sqrt2, 0, "1"}, {consts.Sqrt2, 4, "1.4142"}, {consts.Golden, 0, "1"}, {consts.Golden, 3, "1.618"}, {consts.Golden, 5, "1.61803"},
	} {
		checkDigits(t, c.kind, c.n, c.want)
	}
}

// TestCN2KnownEnd: digits of pi that are known by heart, six nines among them, and the last ones of 1000.
func TestCN2KnownEnd(t *testing.T) {
	pi, _ := consts.Digits(consts.Pi, 1000)
	if len(pi) != 1002 || !strings.HasSuffix(pi, "2164201989") || pi[2+761:2+767] != "999999" {
		t.Errorf("Digits(Pi, 1000) = %s", pi)
	}
}

func TestCN2Digits(t *testing.T) {
	for _, kind := range kinds() {
		all := written(kind, 1000)
		for n := 0; n <= 1000; n += 1 + n/20 {
			checkDigits(t, kind, n, cutAt(all, n))
		}
		for _, n := range []int{997, 998, 999, 1000} {
			checkDigits(t, kind, n, cutAt(all, n))
		}
	}
	for n := 758; n < 770; n++ { // through the nines
		checkDigits(t, consts.Pi, n, written(consts.Pi, n))
	}
}

// cutAt leaves n digits behind the point, and no point without a digit.
func cutAt(text string, n int) string {
	if n == 0 {
		return text[:1]
	}
	return text[:2+n]
}

func TestCN2Wrong(t *testing.T) {
	wrong := func(kind, n int) {
		t.Helper()
		if got, err := consts.Digits(kind, n); got != "" || err != api.ErrArg {
			t.Errorf("Digits(%d, %d) = %q, %v", kind, n, got, err)
		}
	}
	for _, kind := range wrongKinds() {
		for _, n := range []int{0, 1, 1000, -1, 1001} {
			wrong(kind, n)
		}
	}
	for _, kind := range kinds() {
		for _, n := range []int{-1, -1000, 1001, 1002, 1 << 32, math.MaxInt, math.MinInt} {
			wrong(kind, n)
		}
	}
}
