package decim_test

import (
	"math"
	"math/big"
	"strconv"
	"strings"
	"testing"

	"cusp/api"
	"cusp/decim"
)

// floats are edges and many more.
func floats(seed uint64, n int) []float64 {
	list := edges()
	r := numbers{seed}
	for range n {
		list = append(list, r.float())
	}
	return list
}

func TestDC3Examples(t *testing.T) {
	for _, c := range []struct {
		f    float64
		want string
	}{
		{0, "0"}, {1, "1"}, {10, "10"}, {0.5, "0.5"}, {0.75, "0.75"}, {2.5, "2.5"}, {123.25, "123.25"}, {0.0625, "0.0625"}, {100, "100"},
		{0.1, "0.1000000000000000055511151231257827021181583404541015625"}, {0x1p53, "9007199254740992"}, {1e22, "10000000000000000000000"}, {1e23, "99999999999999991611392"}, {0x1p-10, "0.0009765625"}, {0x1p51 + 0.5, "2251799813685248.5"}, {inf, "inf"},
	} {
		wantText(t, "Exact", c.f, decim.Exact(c.f), c.want)
		wantText(t, "Exact", -c.f, decim.Exact(math.Copysign(c.f, -1)), "-"+c.want)
	}
	for _, f := range nans() {
		wantText(t, "Exact", f, decim.Exact(f), "nan")
	}
	if s := decim.Exact(least); len(s) != 2+1074 || !strings.HasSuffix(s, "65625") {
		t.Errorf("Exact of the least float: %d bytes", len(s))
	}
	if s := decim.Exact(greatest); len(s) != 309 || !strings.HasPrefix(s, "17976931348623157081452742373170435679807056752584") {
		t.Errorf("Exact of the greatest float: %d bytes", len(s))
	}
}

func TestDC3Many(t *testing.T) {
	for _, f := range floats(5, 1500) {
		v := ratOf(math.Abs(f))
		wantText(t, "Exact", f, decim.Exact(f), signed(f, v.FloatString(v.Denom().BitLen()-1)))
	}
}

// plainFixed is what DC4 says of a finite f.
func plainFixed(f float64, places, mode int) string {
	v := new(big.Rat).Mul(ratOf(f), powRat(10, places))
	n := new(big.Rat).SetInt(wholeRat(v, mode))
	n.Mul(n.Abs(n), powRat(10, -places))
	return signed(f, n.FloatString(places))
}

// plainDigits is what DC4 says of a finite f.
func plainDigits(f float64, n, mode int) string {
	if f == 0 {
		return signed(f, spread(strings.Repeat("0", n), 0))
	}
	x := placeOf(ratOf(math.Abs(f)))
	v := new(big.Rat).Mul(ratOf(f), powRat(10, n-1-x))
	whole := wholeRat(v, mode)
	text := whole.Abs(whole).String()
	return signed(f, spread(text[:n], x+len(text)-n))
}

// spread lays digits out with an exponent.
func spread(digits string, x int) string {
	if len(digits) > 1 {
		digits = digits[:1] + "." + digits[1:]
	}
	return digits + "e" + strconv.Itoa(x)
}

func TestDC4FixedExamples(t *testing.T) {
	for _, c := range []struct {
		f              float64
		places         int
		down, near, up string
	}{
		{2.5, 0, "2", "2", "3"}, {3.5, 0, "3", "4", "4"}, {-2.5, 0, "-3", "-2", "-2"}, {-3.5, 0, "-4", "-4", "-3"}, {-0.4, 0, "-1", "-0", "-0"}, {0.4, 0, "0", "0", "1"}, {0.5, 0, "0", "0", "1"}, {-0.5, 0, "-1", "-0", "-0"}, {1.5, 0, "1", "2", "2"},
		{0, 0, "0", "0", "0"}, {minusZero, 0, "-0", "-0", "-0"}, {0, 3, "0.000", "0.000", "0.000"}, {minusZero, 2, "-0.00", "-0.00", "-0.00"}, {1, 0, "1", "1", "1"}, {1, 2, "1.00", "1.00", "1.00"}, {-1, 1, "-1.0", "-1.0", "-1.0"},
		{1.005, 2, "1.00", "1.00", "1.01"}, {0.1, 3, "0.100", "0.100", "0.101"}, {-0.1, 3, "-0.101", "-0.100", "-0.100"}, {0.125, 2, "0.12", "0.12", "0.13"}, {0.375, 2, "0.37", "0.38", "0.38"}, {-0.125, 2, "-0.13", "-0.12", "-0.12"},
		{9.99, 1, "9.9", "10.0", "10.0"}, {0.99, 0, "0", "1", "1"}, {0.96, 1, "0.9", "1.0", "1.0"}, {-99.5, 0, "-100", "-100", "-99"}, {0.05, 1, "0.0", "0.1", "0.1"}, {least, 0, "0", "0", "1"}, {least, 5, "0.00000", "0.00000", "0.00001"}, {-least, 5, "-0.00001", "-0.00000", "-0.00000"},
		{1e22, 0, "10000000000000000000000", "10000000000000000000000", "10000000000000000000000"}, {1e22, 1, "10000000000000000000000.0", "10000000000000000000000.0", "10000000000000000000000.0"},
		{inf, 3, "inf", "inf", "inf"}, {-inf, 0, "-inf", "-inf", "-inf"}, {nan, 7, "nan", "nan", "nan"},
	} {
		for i, want := range []string{c.down, c.near, c.up} {
			wantText(t, "Fixed", c.f, fixed(t, c.f, c.places, modes[i]), want)
		}
	}
}

func TestDC4DigitsExamples(t *testing.T) {
	for _, c := range []struct {
		f              float64
		n              int
		down, near, up string
	}{
		{0.1, 3, "1.00e-1", "1.00e-1", "1.01e-1"}, {-0.1, 3, "-1.01e-1", "-1.00e-1", "-1.00e-1"}, {9.99, 2, "9.9e0", "1.0e1", "1.0e1"}, {-9.99, 2, "-1.0e1", "-1.0e1", "-9.9e0"}, {9.99, 1, "9e0", "1e1", "1e1"}, {9.99, 3, "9.99e0", "9.99e0", "1.00e1"},
		{0, 1, "0e0", "0e0", "0e0"}, {0, 3, "0.00e0", "0.00e0", "0.00e0"}, {minusZero, 1, "-0e0", "-0e0", "-0e0"}, {minusZero, 2, "-0.0e0", "-0.0e0", "-0.0e0"}, {1, 1, "1e0", "1e0", "1e0"}, {10, 1, "1e1", "1e1", "1e1"}, {-1, 4, "-1.000e0", "-1.000e0", "-1.000e0"},
		{25, 1, "2e1", "2e1", "3e1"}, {35, 1, "3e1", "4e1", "4e1"}, {-25, 1, "-3e1", "-2e1", "-2e1"}, {95, 1, "9e1", "1e2", "1e2"}, {85, 1, "8e1", "8e1", "9e1"}, {0.95, 1, "9e-1", "9e-1", "1e0"}, {0.0995, 2, "9.9e-2", "1.0e-1", "1.0e-1"}, {1e23, 1, "9e22", "1e23", "1e23"}, {1e22, 5, "1.0000e22", "1.0000e22", "1.0000e22"},
		{greatest, 17, "1.7976931348623157e308", "1.7976931348623157e308", "1.7976931348623158e308"}, {greatest, 1, "1e308", "2e308", "2e308"}, {least, 1, "4e-324", "5e-324", "5e-324"}, {least, 3, "4.94e-324", "4.94e-324", "4.95e-324"}, {-least, 1, "-5e-324", "-5e-324", "-4e-324"},
		{inf, 3, "inf", "inf", "inf"}, {-inf, 1, "-inf", "-inf", "-inf"}, {nan, 7, "nan", "nan", "nan"},
	} {
		for i, want := range []string{c.down, c.near, c.up} {
			wantText(t, "Digits", c.f, digits(t, c.f, c.n, modes[i]), want)
		}
	}
}

func TestDC4P6Many(t *testing.T) {
	r := numbers{6}
	for i, f := range floats(7, 500) {
		list := []int{0, 1, 2, 3, 1 + r.below(30), 1 + r.below(340)}
		if i%20 == 0 {
			list = append(list, 1074, mostDigits, 1+r.below(mostDigits))
		}
		for _, n := range list {
			for _, mode := range modes {
				wantText(t, "Fixed", f, fixed(t, f, n, mode), plainFixed(f, n, mode))
				wantText(t, "Digits", f, digits(t, f, max(1, n), mode), plainDigits(f, max(1, n), mode))
			}
			// The library rounds to the nearest, too.
			wantText(t, "Fixed", f, fixed(t, f, n, api.Near), strconv.FormatFloat(f, 'f', n, 64))
		}
	}
}

// TestDC4Powers: at every power of two and of ten, where the first digit is worth more or less by a little.
func TestDC4Powers(t *testing.T) {
	var list []float64
	for e := -1074; e <= 1023; e++ {
		list = append(list, math.Ldexp(1, e))
	}
	for k := -323; k <= 308; k++ {
		p, _ := strconv.ParseFloat("1e"+strconv.Itoa(k), 64)
		list = append(list, p)
	}
	for _, p := range list {
		for _, f := range []float64{p, math.Nextafter(p, 0), math.Nextafter(p, inf)} {
			for _, n := range []int{1, 17} {
				m, e, _ := strings.Cut(strconv.FormatFloat(f, 'e', n-1, 64), "e")
				x, _ := strconv.Atoi(e)
				wantText(t, "Digits", f, digits(t, f, n, api.Near), m+"e"+strconv.Itoa(x))
			}
		}
	}
}

// TestDC4Ends: just below and above where the digits end, and the next power of ten begins.
func TestDC4Ends(t *testing.T) {
	for k := -20; k <= 22; k++ {
		p, _ := strconv.ParseFloat("1e"+strconv.Itoa(k), 64)
		for _, f := range []float64{p, math.Nextafter(p, 0), math.Nextafter(p, inf), -p, -math.Nextafter(p, 0), 9.5 * p, 99.5 * p, -9.5 * p, 0.5 * p, 1.5 * p, 2.5 * p} {
			for n := range 24 {
				for _, mode := range modes {
					wantText(t, "Fixed", f, fixed(t, f, n, mode), plainFixed(f, n, mode))
					wantText(t, "Digits", f, digits(t, f, n+1, mode), plainDigits(f, n+1, mode))
				}
			}
		}
	}
}

func TestDC4Errors(t *testing.T) {
	list := append(append(edges()[:40], inf, -inf), nans()...)
	wrong := func(what string, s string, err api.Errno) {
		t.Helper()
		if s != "" || err != api.ErrArg {
			t.Errorf("%s = %q, %v", what, s, err)
		}
	}
	for _, f := range list {
		for _, mode := range wrongModes() {
			for _, n := range []int{-1, 0, 1, 5, mostDigits, mostDigits + 1, math.MaxInt} {
				s, err := decim.Fixed(f, n, mode)
				wrong("Fixed", s, err)
				s, err = decim.Digits(f, n, mode)
				wrong("Digits", s, err)
			}
		}
		for _, mode := range modes {
			for _, n := range []int{-1, -2, -mostDigits, mostDigits + 1, mostDigits + 2, 1 << 20, 1 << 32, 1<<32 + 5, math.MaxInt, math.MaxInt - 1, math.MinInt, math.MinInt + 1} {
				s, err := decim.Fixed(f, n, mode)
				wrong("Fixed", s, err)
				s, err = decim.Digits(f, n, mode)
				wrong("Digits", s, err)
			}
			s, err := decim.Digits(f, 0, mode)
			wrong("Digits", s, err)
			fixed(t, f, 0, mode)
			fixed(t, f, mostDigits, mode)
			digits(t, f, 1, mode)
			digits(t, f, mostDigits, mode)
		}
	}
}

func TestDC5Examples(t *testing.T) {
	for _, c := range []struct {
		f    float64
		want string
	}{
		{0.1, "0x1.999999999999ap-4"}, {0, "0x0p0"}, {1, "0x1p0"}, {2, "0x1p1"}, {0.5, "0x1p-1"}, {3, "0x1.8p1"}, {1.0625, "0x1.1p0"}, {1.03125, "0x1.08p0"}, {10, "0x1.4p3"}, {255, "0x1.fep7"}, {0x1p-1022, "0x1p-1022"}, {0x1p1023, "0x1p1023"},
		{least, "0x1p-1074"}, {3 * least, "0x1.8p-1073"}, {5 * least, "0x1.4p-1072"}, {topSmall, "0x1.ffffffffffffep-1023"}, {greatest, "0x1.fffffffffffffp1023"}, {1.0000000000000002, "0x1.0000000000001p0"}, {0.9999999999999999, "0x1.fffffffffffffp-1"}, {inf, "inf"},
	} {
		wantText(t, "Hex", c.f, decim.Hex(c.f), c.want)
		wantText(t, "Hex", -c.f, decim.Hex(math.Copysign(c.f, -1)), "-"+c.want)
	}
	for _, f := range nans() {
		wantText(t, "Hex", f, decim.Hex(f), "nan")
	}
}

func TestDC5Many(t *testing.T) {
	for _, f := range floats(8, 20000) {
		m, e, _ := strings.Cut(strconv.FormatFloat(f, 'x', -1, 64), "p")
		x, _ := strconv.Atoi(e)
		wantText(t, "Hex", f, decim.Hex(f), m+"p"+strconv.Itoa(x))
	}
}
