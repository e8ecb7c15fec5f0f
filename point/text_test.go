package point_test

import (
	"math"
	"regexp"
	"strconv"
	"strings"
	"testing"

	"cusp/api"
	"cusp/decim"
	"cusp/point"
)

// TestPT5Show: the chapter's examples, and every pair of signs.
func TestPT5Show(t *testing.T) {
	for _, c := range []struct {
		re, im float64
		want   string
	}{
		{1.5, minusZero, "1.5-0i"}, {nan, -inf, "nan-infi"},
		{0, 0, "0+0i"}, {minusZero, 0, "-0+0i"}, {minusZero, minusZero, "-0-0i"},
		{inf, inf, "inf+infi"}, {-inf, nan, "-inf+nani"}, {nan, nan, "nan+nani"},
		{1e21, -1e-6, "1e21-1e-6i"}, {-1e-300, 0.1, "-1e-300+0.1i"}, {123456789012345680000, 2, "123456789012345680000+2i"},
	} {
		if got := point.Show(complex(c.re, c.im)); got != c.want {
			t.Errorf("Show(%v, %v) = %q, want %q", c.re, c.im, got, c.want)
		}
	}
	for _, f := range nans() { // a NaN's own sign is none
		if got := point.Show(complex(f, f)); got != "nan+nani" {
			t.Errorf("Show of the NaN %x = %q", math.Float64bits(f), got)
		}
	}
	for _, z := range values() {
		re, im := decim.Shortest(real(z)), decim.Shortest(imag(z))
		if !strings.HasPrefix(im, "-") {
			im = "+" + im
		}
		if got := point.Show(z); got != re+im+"i" {
			t.Errorf("Show(%v) = %q", z, got)
		}
	}
}

// TestPT5Read: the chapter's examples, and others of each form.
func TestPT5Read(t *testing.T) {
	for s, want := range map[string]complex128{
		"2i": complex(0, 2), "1e-2-3i": complex(0.01, -3), "7": 7, "-7": -7, "+7": 7,
		"-2i": complex(0, -2), "+2i": complex(0, 2), "-0": complex(minusZero, 0), "-0i": complex(0, minusZero), "-0-0i": complex(minusZero, minusZero), "0-0i": complex(0, minusZero), "+0+0i": 0,
		"1e-2i": complex(0, 0.01), "1e+2i": complex(0, 100), "1E-2-3E-4i": complex(0.01, -3e-4), "-1.e2+.5e+1i": complex(-100, 5), "1-2e-3i": complex(1, -0.002), "1e5+2i": complex(1e5, 2),
		"0x1p-2-0x.8P+3i": complex(0.25, -4), "0x1p-2i": complex(0, 0.25), "0xep1+1i": complex(28, 1), "-0X1.8p1-1e1i": complex(-3, -10), "0x1ep+1i": complex(0, 60),
		"inf": complex(inf, 0), "infi": complex(0, inf), "-inf-infi": complex(-inf, -inf), "+inf+1i": complex(inf, 1), "1-infi": complex(1, -inf),
		"nan": complex(nan, 0), "nani": complex(0, nan), "-nan-nani": complex(nan, nan), "nan+infi": complex(nan, inf), "1e400-1e400i": complex(inf, -inf), "1e-400-1e-400i": complex(0, minusZero),
	} {
		z, err := point.Read(s, api.Near)
		checkWithError(t, z, err, want, api.OK, "Read", s)
	}
	for _, c := range []struct {
		s        string
		down, up complex128
	}{
		{"0.1-0.1i", complex(0x1.9999999999999p-4, -0x1.999999999999ap-4), complex(0x1.999999999999ap-4, -0x1.9999999999999p-4)},
		{"-1e400+1e400i", complex(-inf, greatest), complex(-greatest, inf)},
		{"1e-400-1e-400i", complex(0, -least), complex(least, minusZero)},
		{"0.1", complex(0x1.9999999999999p-4, 0), complex(0x1.999999999999ap-4, 0)},
		{"-0.1i", complex(0, -0x1.999999999999ap-4), complex(0, -0x1.9999999999999p-4)},
	} {
		z, err := point.Read(c.s, api.Down)
		checkWithError(t, z, err, c.down, api.OK, "Read Down", c.s)
		z, err = point.Read(c.s, api.Up)
		checkWithError(t, z, err, c.up, api.OK, "Read Up", c.s)
	}
}

// TestPT5Form: texts that are none of the three.
func TestPT5Form(t *testing.T) {
	for _, s := range []string{
		"", "i", "+i", "-i", "1+i", "1-i", "i2", "2ii", "1i+2", "1i+2i", "1+2", "1-2", "1+2+3i", "1-2-3", "++1i", "1+-2i", "1 + 2i", " 1", "1 ", "1 i", "2I", "2j", "1+2I",
		"1e-i", "1e-2-i", "1e--2i", "1e", "1e+i", "e+1i", "-e1-1i", "1+e1i", "1p-2i", "1p2+1i", "0x1p-i", "0x1-2i", "0x1e-2i", "0xepi", "0x1e-2p3i", "0x+1p2i", "infinity", "infinityi", "Inf", "NaNi", "infe1i", "1.+.i", ".", ".i",
		"1+2i\x00", "1\x00+2i", "1+2i\n", "1+2\xffi", "1−2i", "1+٣i", "(1,2)", "[1+2i]", "1+2i-", "1+2i i", "1_0+2i", "0b1i", "0o7i", "1+0x2i",
	} {
		for _, mode := range modes {
			z, err := point.Read(s, mode)
			checkWithError(t, z, err, 0, api.ErrForm, "Read", s)
		}
	}
}

const (
	unsignedText = `(?:(?:[0-9]+\.?[0-9]*|\.[0-9]+)(?:[eE][+-]?[0-9]+)?|0[xX](?:[0-9a-fA-F]+\.?[0-9a-fA-F]*|\.[0-9a-fA-F]+)[pP][+-]?[0-9]+|inf|nan)`
	signedText   = `[+-]?` + unsignedText
)

// grammar is the three forms as the chapter tells them.
type grammar struct{ one, imaginary, both *regexp.Regexp }

func theGrammar() grammar {
	return grammar{
		one:       regexp.MustCompile(`^(?:` + signedText + `)$`),
		imaginary: regexp.MustCompile(`^(` + signedText + `)i$`),
		both:      regexp.MustCompile(`^(` + signedText + `)([+-]` + unsignedText + `)i$`),
	}
}

// read is what a text is worth to the nearest, by the library's reading of its parts.
func (g grammar) read(s string) (complex128, bool) {
	if g.one.MatchString(s) {
		return complex(libraryRead(s), 0), true
	}
	if m := g.imaginary.FindStringSubmatch(s); m != nil {
		return complex(0, libraryRead(m[1])), true
	}
	if m := g.both.FindStringSubmatch(s); m != nil {
		return complex(libraryRead(m[1]), libraryRead(m[2])), true
	}
	return 0, false
}

func libraryRead(s string) float64 {
	if strings.HasSuffix(s, "nan") { // the library's has no sign
		return math.NaN()
	}
	f, _ := strconv.ParseFloat(s, 64) // beyond the greatest float it tells an error beside the infinity
	return f
}

// TestPT5AllTexts: every short text over a few pieces is read as the grammar says.
func TestPT5AllTexts(t *testing.T) {
	g := theGrammar()
	read := 0
	for _, c := range []struct {
		pieces []string
		most   int
	}{
		{[]string{"1", ".", "e", "+", "-", "i"}, 6},
		{[]string{"0", "x", "p", "e", "-", "i"}, 6},
		{[]string{"2", "1e", "E-1", "0x1p", "0xe", "-", "+", "i", "inf", "nan"}, 5},
		{[]string{"0x1ep-3", "1e-2", "1e+", "-", "+3", "i", "P+1"}, 5},
	} {
		everyText(c.pieces, c.most, func(s string) {
			want, ok := g.read(s)
			wantErr := api.OK
			if !ok {
				wantErr = api.ErrForm
			} else {
				read++
			}
			z, err := point.Read(s, api.Near)
			checkWithError(t, z, err, want, wantErr, "Read", s)
		})
	}
	if read < 500 {
		t.Errorf("only %d of the texts have the form", read)
	}
}

// everyText gives each text of at most that many pieces.
func everyText(pieces []string, most int, each func(string)) {
	texts := []string{""}
	for range most + 1 {
		var longer []string
		for _, s := range texts {
			each(s)
			for _, p := range pieces {
				longer = append(longer, s+p)
			}
		}
		texts = longer
	}
}

// TestPT5Long: a text's bytes, and a part's digits, up to what is allowed and one beyond it.
func TestPT5Long(t *testing.T) {
	digits := strings.Repeat("0", api.MaxDigits-1)
	full := "1" + digits
	over := full + "0"
	for _, c := range []struct {
		s    string
		want complex128
		err  api.Errno
	}{
		{"." + digits + "1-" + digits + "2i", complex(0, -2), api.OK},
		{digits + "2-." + digits + "1e1099i", complex(2, -0.1), api.OK}, {full + "i", complex(0, inf), api.OK}, {full, complex(inf, 0), api.OK},
		{over, 0, api.ErrLong}, {over + "i", 0, api.ErrLong}, {over + "-1i", 0, api.ErrLong}, {"1-" + over + "i", 0, api.ErrLong}, {over + "+" + over + "i", 0, api.ErrLong},
		{over + "-i", 0, api.ErrForm}, {over + "-1ii", 0, api.ErrForm}, {"x-" + over + "i", 0, api.ErrForm}, {"-" + over + "-x" + "i", 0, api.ErrForm}, {over + "-1", 0, api.ErrForm},
	} {
		z, err := point.Read(c.s, api.Near)
		checkWithError(t, z, err, c.want, c.err, "Read", c.s)
	}
	exponent := strings.Repeat("0", api.MaxText-len("1e2-3e4i")) + "2"
	for _, s := range []string{"1e" + exponent + "-3e4i", "1e2-3e" + exponent[:len(exponent)-1] + "4i"} {
		z, err := point.Read(s, api.Near)
		checkWithError(t, z, err, complex(100, -3e4), api.OK, "Read", len(s))
		z, err = point.Read("+"+s, api.Near)
		checkWithError(t, z, err, 0, api.ErrLong, "Read", len(s)+1)
	}
	z, err := point.Read(strings.Repeat("x", api.MaxText+1), api.Near)
	checkWithError(t, z, err, 0, api.ErrLong, "Read", "too many bytes of no form")
}

// TestPT5P1Ends: the longest texts, full of signs, are looked through but once.
func TestPT5P1Ends(t *testing.T) {
	for _, piece := range []string{"+", "-1", "e+", "1e-1", "p-", "i", "+1i", "\xff", "nan-", "0x1p+"} {
		s := strings.Repeat(piece, (api.MaxText-1)/len(piece)) + "i"
		z, err := point.Read(s, api.Near)
		checkWithError(t, z, err, 0, api.ErrForm, "Read of many", piece)
	}
}

// TestPT5P1Errors: a mode that is none comes ahead of everything else.
func TestPT5P1Errors(t *testing.T) {
	for _, mode := range wrongModes() {
		for _, s := range []string{"", "1", "1+2i", "no", strings.Repeat("1", api.MaxDigits+1), strings.Repeat("1", api.MaxText+1)} {
			z, err := point.Read(s, mode)
			checkWithError(t, z, err, 0, api.ErrArg, "Read", s, mode)
		}
	}
}
