package decim_test

import (
	"math"
	"math/big"
	"strconv"
	"strings"
	"testing"

	"cusp/api"
	"cusp/decim"
)

// laid is what DC2 lays digits out as, the first one of which is worth 10^x.
func laid(digits string, x int) string {
	if x < -5 || x > 20 {
		behind := ""
		if len(digits) > 1 {
			behind = "." + digits[1:]
		}
		return digits[:1] + behind + "e" + strconv.Itoa(x)
	}
	whole, _ := new(big.Rat).SetString(digits)
	places := len(digits) - 1 - x
	return whole.Mul(whole, powRat(10, -places)).FloatString(max(0, places))
}

// placeOf is the x of 10^x <= v < 10^(x+1).
func placeOf(v *big.Rat) int {
	x := -330
	for powRat(10, x+50).Cmp(v) <= 0 {
		x += 50
	}
	for powRat(10, x+1).Cmp(v) <= 0 {
		x++
	}
	return x
}

// plainShortest is what DC2 says of f above 0, by a search: the library reads.
func plainShortest(f float64) string {
	v := ratOf(f)
	x := placeOf(v)
	for n := 1; ; n++ {
		v10 := new(big.Rat).Mul(v, powRat(10, n-1-x))
		low := wholeRat(v10, api.Down)
		best, bestFar := "", new(big.Rat)
		for d := int64(-12); d <= 13; d++ {
			try := new(big.Int).Add(low, big.NewInt(d))
			text := try.String()
			if back, _ := strconv.ParseFloat(text+"e"+strconv.Itoa(x+1-n), 64); back != f {
				continue
			}
			far := new(big.Rat).Sub(v10, new(big.Rat).SetInt(try))
			far.Abs(far)
			order := far.Cmp(bestFar)
			if best == "" || order < 0 || order == 0 && lastDigit(text)%2 == 0 {
				best, bestFar = text, far
			}
		}
		if best != "" {
			return laid(strings.TrimRight(best, "0"), x+len(best)-n)
		}
	}
}

func lastDigit(s string) byte {
	s = strings.TrimRight(s, "0")
	return s[len(s)-1] - '0'
}

// libraryShortest is the library's shortest text of f above 0, laid out by DC2.
func libraryShortest(f float64) string {
	m, e, _ := strings.Cut(strconv.FormatFloat(f, 'e', -1, 64), "e")
	x, _ := strconv.Atoi(e)
	return laid(strings.Replace(m, ".", "", 1), x)
}

func TestDC2Examples(t *testing.T) {
	for _, c := range []struct {
		f    float64
		want string
	}{
		{0.3, "0.3"}, {5e-324, "5e-324"}, {1e21, "1e21"}, {123456789012345680000, "123456789012345680000"}, {0.00001, "0.00001"}, {0.000001, "1e-6"},
		{0, "0"}, {1, "1"}, {10, "10"}, {100, "100"}, {1e20, "100000000000000000000"}, {999999999999999868928, "999999999999999900000"}, {1.5e20, "150000000000000000000"}, {1.5e21, "1.5e21"}, {0x1p70, "1.1805916207174113e21"},
		{0.1, "0.1"}, {0.30000000000000004, "0.30000000000000004"}, {1.5, "1.5"}, {123.456, "123.456"}, {0.000012345, "0.000012345"}, {0.000009999, "9.999e-6"}, {2.5e-7, "2.5e-7"}, {9.999999999999999e-6, "9.999999999999999e-6"}, {1.0000000000000001e-5, "0.00001"}, {0.000010000000000000003, "0.000010000000000000003"},
		{math.Pi, "3.141592653589793"}, {1.0 / 3, "0.3333333333333333"}, {2.0 / 3, "0.6666666666666666"}, {1.0000000000000002, "1.0000000000000002"}, {0.9999999999999999, "0.9999999999999999"},
		{greatest, "1.7976931348623157e308"}, {leastNormal, "2.2250738585072014e-308"}, {topSmall, "2.225073858507201e-308"}, {2 * least, "1e-323"}, {3 * least, "1.5e-323"}, {4 * least, "2e-323"}, {1e23, "1e23"}, {9.999999999999999e22, "1e23"}, {0x1.52d02c7e14af5p76, "9.999999999999997e22"}, {1e22, "1e22"}, {1e-323, "1e-323"},
		{0x1p-44, "5.684341886080802e-14"}, {0x1p53, "9007199254740992"}, {0x1p54, "18014398509481984"}, {0x1p60, "1152921504606847000"}, {0x1p63, "9223372036854776000"},
		// As near from below as from above: the even digit.
		{0x1p50 + 0.25, "1125899906842624.2"}, {0x1p50 + 0.75, "1125899906842624.8"}, {0x1p50 + 1.25, "1125899906842625.2"}, {0x1p50 + 1.75, "1125899906842625.8"}, {0x1p49 + 0.125, "562949953421312.1"}, {0x1p49 + 0.375, "562949953421312.4"}, {0x1p50 + 0.5, "1125899906842624.5"},
		{inf, "inf"},
	} {
		wantText(t, "Shortest", c.f, decim.Shortest(c.f), c.want)
		wantText(t, "Shortest", -c.f, decim.Shortest(math.Copysign(c.f, -1)), "-"+c.want)
	}
	for _, f := range nans() {
		wantText(t, "Shortest", f, decim.Shortest(f), "nan")
	}
}

func checkShortest(t *testing.T, f float64) {
	t.Helper()
	if f == 0 {
		wantText(t, "Shortest", f, decim.Shortest(f), signed(f, "0"))
		return
	}
	wantText(t, "Shortest", f, decim.Shortest(f), signed(f, plainShortest(math.Abs(f))))
}

// TestDC2Search: against a search among the decimals near a float.
func TestDC2Search(t *testing.T) {
	for _, f := range edges() {
		checkShortest(t, f)
	}
	r := numbers{3}
	for range 1500 {
		checkShortest(t, r.float())
	}
	for k := range 200 { // the least floats have few digits
		checkShortest(t, float64(k)*least)
	}
}

// TestDC2Powers: at every power of two, where the floats below lie half as far apart, and of ten.
func TestDC2Powers(t *testing.T) {
	for e := -1074; e <= 1023; e++ {
		p := math.Ldexp(1, e)
		for _, f := range []float64{p, math.Nextafter(p, 0), math.Nextafter(p, inf)} {
			if f > 0 {
				wantText(t, "Shortest", f, decim.Shortest(f), libraryShortest(f))
			}
		}
	}
	for k := -323; k <= 308; k++ {
		p, _ := strconv.ParseFloat("1e"+strconv.Itoa(k), 64)
		for _, f := range []float64{p, math.Nextafter(p, 0), math.Nextafter(p, inf), 9 * p, 9.5 * p} {
			if f < inf {
				wantText(t, "Shortest", f, decim.Shortest(f), libraryShortest(f))
			}
		}
	}
}

// TestDC2Layout: all numbers of digits at all exponents near those where the layout changes.
func TestDC2Layout(t *testing.T) {
	const row = "12345678912345678"
	for n := 1; n <= 15; n++ { // so many digits are always read as a float of its own
		for x := -9; x <= 24; x++ {
			f, _ := strconv.ParseFloat(row[:1]+"."+row[1:n]+"e"+strconv.Itoa(x), 64)
			wantText(t, "Shortest", f, decim.Shortest(f), laid(row[:n], x))
			wantText(t, "Shortest", -f, decim.Shortest(-f), "-"+laid(row[:n], x))
		}
	}
}

func TestDC2Library(t *testing.T) {
	r := numbers{4}
	for range 40000 {
		f := math.Abs(r.float())
		if f != 0 {
			wantText(t, "Shortest", f, decim.Shortest(f), libraryShortest(f))
		}
	}
	for i := range 2000 { // ties, and what is beside them
		f := 0x1p50 + float64(i)*0.25
		wantText(t, "Shortest", f, decim.Shortest(f), libraryShortest(f))
		g := 0x1p49 + float64(i)*0.125
		wantText(t, "Shortest", g, decim.Shortest(g), libraryShortest(g))
	}
}
