package decim_test

import (
	"math"
	"math/big"
	"regexp"
	"strconv"
	"strings"
	"testing"

	"cusp/api"
)

// The forms of a decimal's text, written once more.
var (
	tens     = regexp.MustCompile(`^[+-]?(?:([0-9]+)\.?([0-9]*)|\.([0-9]+))(?:[eE]([+-]?[0-9]+))?$`)
	sixteens = regexp.MustCompile(`^[+-]?0[xX](?:([0-9a-fA-F]+)\.?([0-9a-fA-F]*)|\.([0-9a-fA-F]+))[pP]([+-]?[0-9]+)$`)
	names    = regexp.MustCompile(`^[+-]?(inf|nan)$`)
)

// plainRead is what a text with a small exponent says, and whether it is one.
func plainRead(s string, mode int) (float64, bool) {
	neg := strings.HasPrefix(s, "-")
	sign := map[bool]float64{false: 1, true: -1}[neg]
	if m := names.FindStringSubmatch(s); m != nil {
		return map[string]float64{"inf": sign * inf, "nan": nan}[m[1]], true
	}
	base, power, perDigit := 10, 10, 1
	m := tens.FindStringSubmatch(s)
	if m == nil {
		base, power, perDigit = 16, 2, 4
		m = sixteens.FindStringSubmatch(s)
	}
	if m == nil {
		return 0, false
	}
	behind := m[2] + m[3]
	whole, _ := new(big.Int).SetString(m[1]+behind, base)
	if whole.Sign() == 0 {
		return math.Copysign(0, sign), true
	}
	if neg {
		whole.Neg(whole)
	}
	e, _ := strconv.Atoi("0" + strings.TrimLeft(m[4], "+-"))
	if strings.HasPrefix(m[4], "-") {
		e = -e
	}
	x := new(big.Rat).SetInt(whole)
	return rounded(x.Mul(x, powRat(power, e-perDigit*len(behind))), mode), true
}

// checkRead holds Read against plainRead, by every mode.
func checkRead(t *testing.T, s string) {
	t.Helper()
	for _, mode := range modes {
		if want, ok := plainRead(s, mode); ok {
			wantRead(t, s, mode, want)
		} else {
			wantReadErr(t, s, mode, api.ErrForm)
		}
	}
}

func TestDC1Examples(t *testing.T) {
	tenth, beforeTenth := math.Float64frombits(0x3fb999999999999a), math.Float64frombits(0x3fb9999999999999)
	for _, c := range []struct {
		s              string
		down, near, up float64
	}{
		{"0.1", beforeTenth, tenth, tenth}, {"-0.1", -tenth, -tenth, -beforeTenth}, {"1e400", greatest, inf, inf}, {"-1e400", -inf, -inf, -greatest}, {"1e-400", 0, 0, least}, {"-1e-400", -least, minusZero, minusZero},
		{"0", 0, 0, 0}, {"+0", 0, 0, 0}, {"-0", minusZero, minusZero, minusZero}, {"-0.000e5", minusZero, minusZero, minusZero}, {"-.0", minusZero, minusZero, minusZero}, {"-0x0p0", minusZero, minusZero, minusZero}, {"-0x.0p-99999", minusZero, minusZero, minusZero}, {"0e99999", 0, 0, 0}, {"0x00.00p99999", 0, 0, 0},
		{"1", 1, 1, 1}, {"+1", 1, 1, 1}, {"-1", -1, -1, -1}, {"1.", 1, 1, 1}, {"1.e1", 10, 10, 10}, {".5", .5, .5, .5}, {".5e1", 5, 5, 5}, {"00012.5000", 12.5, 12.5, 12.5}, {"1e+2", 100, 100, 100}, {"1E-0", 1, 1, 1}, {"1e0000000000000000000000000000003", 1000, 1000, 1000}, {"125e-3", .125, .125, .125},
		{"0x1p0", 1, 1, 1}, {"0X1P0", 1, 1, 1}, {"0x1.8p-1", .75, .75, .75}, {"0x.8p1", 1, 1, 1}, {"0x8.p+1", 16, 16, 16}, {"-0xAbCdEfp0", -0xabcdef, -0xabcdef, -0xabcdef}, {"0x1e5p1", 0x3ca, 0x3ca, 0x3ca}, {"0x1E5.Fp4", 0x1e5f, 0x1e5f, 0x1e5f}, {"0x00000.00010p16", 1, 1, 1},
		{"inf", inf, inf, inf}, {"+inf", inf, inf, inf}, {"-inf", -inf, -inf, -inf}, {"nan", nan, nan, nan}, {"+nan", nan, nan, nan}, {"-nan", nan, nan, nan},
		{"9007199254740993", 0x1p53, 0x1p53, 0x1p53 + 2}, {"9007199254740995", 0x1p53 + 2, 0x1p53 + 4, 0x1p53 + 4}, {"-9007199254740993", -0x1p53 - 2, -0x1p53, -0x1p53}, {"9007199254740993.00000000000000000000000000000000001", 0x1p53, 0x1p53 + 2, 0x1p53 + 2}, {"9007199254740992.99999999999999999999999999999999999", 0x1p53, 0x1p53, 0x1p53 + 2},
		{"0x1.00000000000008p0", 1, 1, 1.0000000000000002}, {"0x1.00000000000018p0", 1.0000000000000002, 1.0000000000000004, 1.0000000000000004}, {"0x1.000000000000080000000000000000000000001p0", 1, 1.0000000000000002, 1.0000000000000002},
		{"0x1p-1074", least, least, least}, {"0x1p-1075", 0, 0, least}, {"-0x1p-1075", -least, minusZero, minusZero}, {"0x1.8p-1075", 0, least, least}, {"0x3p-1075", least, 2 * least, 2 * least}, {"0x1p-1023", leastNormal / 2, leastNormal / 2, leastNormal / 2},
		{"0x1.fffffffffffffp1023", greatest, greatest, greatest}, {"0x1.fffffffffffff7p1023", greatest, greatest, inf}, {"0x1.fffffffffffff8p1023", greatest, inf, inf}, {"0x1p1024", greatest, inf, inf}, {"-0x1p1024", -inf, -inf, -greatest},
		{"1.7976931348623157e308", beforeTop, greatest, greatest}, {"1.7976931348623158e308", greatest, greatest, inf}, {"1.797693134862315807e308", greatest, greatest, inf}, {"1.797693134862315808e308", greatest, inf, inf}, {"1.7976931348623159e308", greatest, inf, inf},
		{"2.4703282292062327e-324", 0, 0, least}, {"2.4703282292062328e-324", 0, least, least}, {"2.2250738585072011e-308", topSmall, topSmall, leastNormal}, {"2.2250738585072012e-308", topSmall, leastNormal, leastNormal},
	} {
		for i, want := range []float64{c.down, c.near, c.up} {
			wantRead(t, c.s, modes[i], want)
		}
		checkRead(t, c.s)
	}
}

func TestDC1Refused(t *testing.T) {
	for _, s := range []string{
		"", "+", "-", ".", "+.", "-.", "e", "e5", ".e5", "+e5", "1e", "1e+", "1e-", "1.e", "1ee5", "1e5e5", "1e5.", "1e5.5", "1e.5", "1e 5", "1e++5", "1e+-5", "1e5+", "1..", "..1", "1.2.3", "1.2.", "1-", "1+1", "--1", "++1", "+-1", "-+1",
		" 1", "1 ", "1 2", "\t1", "1\n", "1_000", "1,5", "1,000", "'1'", "1f", "1d", "a", "1a", "x1", "1x", "1p5", "1.5p1", "0b1", "0o7", "0b1p1",
		"0x", "0xp1", "0x.p1", "0x1", "0x1.8", "0x1p", "0x1p+", "0x1p-", "0x1pa", "0x1p1a", "0x1pp1", "0x1p1p1", "0x1p1.", "0x1P1.5", "0x1..p1", "0x1.2.3p1", "0x-1p1", "0x+1p1", "0x 1p1", "0x1 p1", "0xgp1", "0x1gp1", "00x1p1", "1x1p1", "x1p1", "0xx1p1", "0x0x1p1", "0x1e5", "0x1e+5", "0x_1p1", "0x1p1_0",
		"Inf", "INF", "iNf", "in", "infi", "infinity", "inf ", " inf", "inff", "--inf", "+-inf", "inf5", "1inf", "inf.", "infe5", "NaN", "NAN", "Nan", "nan0", "na", "nann", "--nan", "nan(1)", "0xinf", "0xnanp1", ".inf",
		"\x00", "1\x00", "\x001", "1e\x00", "1e5\x00", "１", "1.５", "1e５", "−1", "+１", "1\xff", "\xff", "0x１p1", "٣", "1e\xb2", "½", "∞", "1·5", "1٫5",
	} {
		checkRead(t, s)
		wantReadErr(t, s, api.Near, api.ErrForm)
	}
}

// TestDC1ShortTexts: all texts of few signs are read just where they have the form.
func TestDC1ShortTexts(t *testing.T) {
	var try func(s, signs string, more int)
	try = func(s, signs string, more int) {
		checkRead(t, s)
		if more > 0 {
			for _, c := range signs {
				try(s+string(c), signs, more-1)
			}
		}
	}
	try("", "+-.09eExXpPaFinN ", 3)
	try("", "-.05e", 6)
	try("", "-.0xp", 6)
	try("0x", "+-.8Fp", 5)
	try("9", "+-.1eE", 5)
	try("", "-infa", 5)
}

func TestDC1Order(t *testing.T) {
	long := strings.Repeat("1", api.MaxText+1)
	many := strings.Repeat("1", mostDigits+1)
	for _, mode := range wrongModes() {
		for _, s := range []string{"", "1", "nan", "inf", "x", many, long, long + "x"} {
			wantReadErr(t, s, mode, api.ErrArg)
		}
	}
	for _, mode := range modes {
		// Too many bytes go ahead of the form, too many digits behind it.
		for _, s := range []string{long, long + "x", strings.Repeat("x", api.MaxText+1), "1e" + strings.Repeat("0", api.MaxText-1), strings.Repeat(" ", api.MaxText+1)} {
			wantReadErr(t, s, mode, api.ErrLong)
		}
		for _, s := range []string{many + "x", many + "e", many + ".1.", "x" + many, "0x" + many, "0x" + many + "p", many + "inf", long[2:] + "x", strings.Repeat("x", api.MaxText)} {
			wantReadErr(t, s, mode, api.ErrForm)
		}
		for _, s := range []string{many, "-" + many, many + "e5", "." + many, "0x" + many + "p1", long[1:], strings.Repeat("0", api.MaxText)} {
			wantReadErr(t, s, mode, api.ErrLong)
		}
	}
}

// TestDC1ManyDigits: MaxDigits digits ahead of the exponent are read, wherever the point stands; with one more, be it a nought, they are not.
func TestDC1ManyDigits(t *testing.T) {
	for _, one := range []string{"0", "1", "9"} {
		row := strings.Repeat(one, mostDigits)
		for _, at := range []int{0, 1, 300, mostDigits - 1, mostDigits} {
			for _, sign := range []string{"", "+", "-"} {
				for _, power := range []string{"", "e5", "E-1090", "e-1400", "e300"} {
					checkRead(t, sign+row[:at]+"."+row[at:]+power)
					for _, more := range []string{"0", "1"} {
						wantReadErr(t, sign+more+row[:at]+"."+row[at:]+power, api.Near, api.ErrLong)
						wantReadErr(t, sign+row[:at]+"."+row[at:]+more+power, api.Near, api.ErrLong)
					}
				}
				for _, power := range []string{"p0", "P-4400", "p-5470", "p-6000", "p4000", "p+5423", "p5424"} {
					checkRead(t, sign+"0x"+row[:at]+"."+row[at:]+power)
					wantReadErr(t, sign+"0X0"+row[:at]+"."+row[at:]+power, api.Near, api.ErrLong)
					wantReadErr(t, sign+"0x"+row[:at]+"."+row[at:]+"0"+power, api.Near, api.ErrLong)
				}
			}
		}
		checkRead(t, row)
		wantReadErr(t, row+"0", api.Near, api.ErrLong)
		wantReadErr(t, "0"+row, api.Near, api.ErrLong)
	}
	// The last of MaxDigits digits decides.
	for _, c := range []struct {
		last           string
		down, near, up float64
	}{{"0", 0x1p53, 0x1p53, 0x1p53 + 2}, {"1", 0x1p53, 0x1p53 + 2, 0x1p53 + 2}} {
		s := "9007199254740993." + strings.Repeat("0", mostDigits-17) + c.last
		for i, want := range []float64{c.down, c.near, c.up} {
			wantRead(t, s, modes[i], want)
		}
	}
	tiny := "0." + strings.Repeat("0", mostDigits-2) + "1"
	for _, c := range []struct {
		s              string
		down, near, up float64
	}{
		{tiny, 0, 0, least}, {tiny + "e1099", 1, 1, 1}, {tiny + "e1399", math.Nextafter(1e300, 0), 1e300, 1e300}, {tiny + "e1408", greatest, inf, inf}, {tiny + "e9999999", greatest, inf, inf},
		{"1" + strings.Repeat("0", mostDigits-1) + "e-1099", 1, 1, 1}, {"1" + strings.Repeat("0", mostDigits-1) + "e-1424", 0, 0, least}, {"1" + strings.Repeat("0", mostDigits-1) + "e-9999999", 0, 0, least}, {"0x1" + strings.Repeat("0", mostDigits-1) + "p-4396", 1, 1, 1}, {"0x." + strings.Repeat("0", mostDigits-1) + "1p4400", 1, 1, 1}, {"0x." + strings.Repeat("0", mostDigits-1) + "1p3326", least, least, least},
	} {
		for i, want := range []float64{c.down, c.near, c.up} {
			wantRead(t, c.s, modes[i], want)
		}
	}
}

// TestDC1Exponents: an exponent may have as many digits as the text, and be of any size.
func TestDC1Exponents(t *testing.T) {
	nines := strings.Repeat("9", api.MaxText-6)
	zeros := strings.Repeat("0", api.MaxText-7)
	for _, e := range []string{"401", "999", "5999", "6000", "6001", "65536", "65537", "2147483648", "4294967296", "4294967301", "9223372036854775807", "9223372036854775808", "18446744073709551616", "18446744073709551617", "99999999999999999999999999", nines} {
		for i, want := range []float64{greatest, inf, inf} {
			wantRead(t, "1e"+e, modes[i], want)
			wantRead(t, "-.1E+"+e, modes[2-i], -want)
			wantRead(t, "-0e"+e, modes[i], minusZero)
			if e != "401" && e != "999" {
				wantRead(t, "0x1p"+e, modes[i], want)
			}
		}
		for i, want := range []float64{0, 0, least} {
			wantRead(t, "9e-"+e, modes[i], want)
			wantRead(t, "-9e-"+e, modes[2-i], -want+math.Copysign(0, -1))
			wantRead(t, "+0e-"+e, modes[i], 0)
			if e != "401" && e != "999" {
				wantRead(t, "0xFp-"+e, modes[i], want)
			}
		}
	}
	wantRead(t, "1e"+zeros+"1", api.Down, 10)
	wantRead(t, "1e-"+zeros+"1", api.Near, 0.1)
	wantRead(t, "0x1p"+zeros+"1", api.Up, 2)
	for e := -1500; e <= 1500; e += 7 {
		checkRead(t, "7e"+strconv.Itoa(e))
		checkRead(t, "-123456789.123456789e"+strconv.Itoa(e))
		checkRead(t, "0x.deadbeefcafe123p"+strconv.Itoa(e))
	}
	for e := -345; e <= 312; e++ {
		checkRead(t, "1e"+strconv.Itoa(e))
	}
	for e := -1080; e <= 1026; e++ {
		checkRead(t, "-0x1p"+strconv.Itoa(e))
	}
}

// TestDC1P6Many: texts of all lengths and scales.
func TestDC1P6Many(t *testing.T) {
	r := numbers{1}
	sign := func() string { return []string{"", "+", "-"}[r.below(3)] }
	for i := range 6000 {
		size := 1 + r.below(1+i%60)
		if i%40 == 0 {
			size = 1 + r.below(mostDigits)
		}
		at := r.below(size + 1)
		pool := []string{"0123456789", "09", "4999999", "5000000"}[r.below(4)]
		s := r.text(size, pool)
		checkRead(t, sign()+s[:at]+"."+s[at:]+"e"+sign()+strconv.Itoa(r.below(1+i%400)))
		checkRead(t, sign()+s)
		pool = []string{"0123456789abcdefABCDEF", "0f", "8000000", "7ffffff"}[r.below(4)]
		s = r.text(size, pool)
		checkRead(t, sign()+"0x"+s[:at]+"."+s[at:]+"p"+sign()+strconv.Itoa(r.below(1+i%1200)))
	}
}

// TestDC1P6Halves: texts of floats, of the middles between them, and of what is a little more or less.
func TestDC1P6Halves(t *testing.T) {
	list := edges()
	r := numbers{2}
	for range 1000 {
		list = append(list, r.float())
	}
	for _, f := range list {
		if f <= 0 {
			continue
		}
		next := math.Nextafter(f, inf)
		middle := ratOf(f)
		if next == inf {
			middle.Add(middle, powRat(2, 970))
		} else {
			middle.Add(middle, ratOf(next)).Quo(middle, big.NewRat(2, 1))
		}
		text := middle.FloatString(middle.Denom().BitLen() - 1)
		if !strings.Contains(text, ".") {
			text += "."
		}
		near := f
		if math.Float64bits(f)%2 == 1 {
			near = next
		}
		for i, want := range []float64{f, near, next} {
			wantRead(t, text, modes[i], want)
			wantRead(t, "-"+text, modes[2-i], -want)
		}
		more := text + strings.Repeat("0", mostDigits-len(text)) + "1" // the point is none of the digits
		for i, want := range []float64{f, next, next} {
			wantRead(t, more, modes[i], want)
			wantRead(t, "-"+more, modes[2-i], -want)
		}
		last := strings.LastIndexAny(text, "123456789")
		less := text[:last] + string(text[last]-1) + strings.ReplaceAll(text[last+1:], "0", "9") + "9"
		for i, want := range []float64{f, f, next} {
			wantRead(t, less, modes[i], want)
			wantRead(t, "-"+less, modes[2-i], -want)
		}
	}
}
