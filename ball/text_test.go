package ball_test

import (
	"math/big"
	"regexp"
	"strings"
	"testing"

	"cusp/api"
	"cusp/ball"
	"cusp/decim"
	"cusp/point"
)

func TestBA5Show(t *testing.T) {
	for _, c := range []struct {
		b    api.Ball
		want string
	}{
		{of(1.5, minusZero, 0.25), "[1.5-0i ~ 0.25]"}, {dot(0, 0), "[0+0i ~ 0]"}, {dot(-4, minusZero), "[-4-0i ~ 0]"}, {dot(minusZero, 2), "[-0+2i ~ 0]"},
		{of(0.30000000000000004, 0, 6.938893903907228e-17), "[0.30000000000000004+0i ~ 6.938893903907228e-17]"}, {of(1e21, -1e-6, least), "[1e21-1e-6i ~ 5e-324]"}, {plane, "[plane]"},
	} {
		if got := ball.Show(c.b); got != c.want {
			t.Errorf("Show(%v) = %q, want %q", c.b, got, c.want)
		}
	}
	for _, b := range corners()[1:] {
		if got := ball.Show(b); got != "["+point.Show(b.Mid)+" ~ "+decim.Shortest(b.Rad)+"]" {
			t.Errorf("Show(%v) = %q", b, got)
		}
	}
	for _, w := range wrongBalls() {
		if got := ball.Show(w); got != "" {
			t.Errorf("Show(%v) = %q", w, got)
		}
	}
}

func TestBA5ReadCases(t *testing.T) {
	const tenth = 1.3877787807814457e-17 // how far the floats around 0.1 are apart
	for s, want := range map[string]api.Ball{
		"[plane]": plane, "[0.1]": of(0.1, 0, tenth), "[1.5-0i ~ 0.25]": of(1.5, minusZero, 0.25), "[1]": dot(1, 0), "[-2i]": dot(0, -2), "[-0-0i]": dot(minusZero, minusZero), "[1+2i]": dot(1, 2),
		"[1~2]": of(1, 0, 2), "[1 ~2]": of(1, 0, 2), "[1~ 2]": of(1, 0, 2), "[1     ~   2]": of(1, 0, 2), "[1+2i~.5e1]": of(1, 2, 5), "[3~+2.]": of(3, 0, 2), "[0x1p-1~0X.8P1]": of(0.5, 0, 1),
		"[1 ~ 0.1]": of(1, 0, 0.1), "[1 ~ 0.3]": of(1, 0, 0x1.3333333333334p-2), "[1 ~ 1e-400]": of(1, 0, least), // the radius is rounded up
		"[1 ~ -0]": dot(1, 0), "[1~-0.00e7]": dot(1, 0), "[1~-.0]": dot(1, 0), "[1~-0x0.p9]": dot(1, 0), "[1~-0X.0P-9]": dot(1, 0), "[1~-00.0E+12]": dot(1, 0), "[-0~-0]": dot(minusZero, 0), // a minus ahead of nought is none
		"[0.1 ~ 1]": of(0.1, 0, afterOne), "[0.1i ~ 1]": of(0, 0.1, afterOne), "[0.1-0.1i]": of(0.1, -0.1, 2*tenth), "[0.1-0.1i ~ 1]": of(0.1, -0.1, 1+0x1p-51), // each time rounded up
		"[1e-400]": of(0, 0, least), "[-1e-400-1e-400i]": of(minusZero, minusZero, 2*least), "[1e-400~1e-400]": of(0, 0, 2*least),
		"[1e400]": plane, "[-1e400i]": plane, "[1~1e400]": plane, "[1.7976931348623158e308]": plane, "[1.7976931348623157e308]": of(greatest, 0, 0x1p971), "[0~1.7976931348623158e308]": plane, "[0~1.7976931348623157e308]": of(0, 0, greatest),
		"[" + strings.Repeat("0", api.MaxDigits-1) + "7 ~ " + strings.Repeat("0", api.MaxDigits-1) + "3]": of(7, 0, 3),
	} {
		got, err := ball.Read(s)
		check(t, got, err, want, "Read", s)
	}
}

// TestBA5ReadOrder: the real part's difference is added ahead of the imaginary one's; here the order is to be seen.
func TestBA5ReadOrder(t *testing.T) {
	seen := 0
	r := numbers{146}
	for range 4000 {
		digits := func() string {
			return decim.Shortest(float64(1+r.below(999))) + "e-" + decim.Shortest(float64(r.below(40)))
		}
		re, im, rad := digits(), digits(), digits()
		text := "[" + re + "+" + im + "i ~ " + rad + "]"
		value := func(s string) *big.Rat {
			v, _ := new(big.Rat).SetString(s)
			return v
		}
		sum := func(list ...float64) float64 {
			out := list[0]
			for _, f := range list[1:] {
				out = towards(twice(plus(whole(out), whole(f))), api.Up)
			}
			return out
		}
		lost := func(s string) float64 {
			return sum(rounded(value(s), api.Up), -rounded(value(s), api.Down))
		}
		start := rounded(value(rad), api.Up)
		want := sum(start, lost(re), lost(im))
		if want != sum(start, lost(im), lost(re)) || want != sum(start, sum(lost(re), lost(im))) {
			seen++
		}
		got, err := ball.Read(text)
		check(t, got, err, of(rounded(value(re), api.Near), rounded(value(im), api.Near), want), "Read", text)
	}
	if seen == 0 {
		t.Error("the order is never to be seen")
	}
}

const (
	unsignedText = `(?:(?:[0-9]+\.?[0-9]*|\.[0-9]+)(?:[eE][+-]?[0-9]+)?|0[xX](?:[0-9a-fA-F]+\.?[0-9a-fA-F]*|\.[0-9a-fA-F]+)[pP][+-]?[0-9]+)`
	valueText    = `(?:[+-]?` + unsignedText + `i?|[+-]?` + unsignedText + `[+-]` + unsignedText + `i)`
	radiusText   = `(?: *~ *(?:\+?` + unsignedText + `|-(?:(?:0+\.?0*|\.0+)(?:[eE][+-]?[0-9]+)?|0[xX](?:0+\.?0*|\.0+)[pP][+-]?[0-9]+)))?`
)

// TestBA5ReadForm: texts that one place makes right or wrong, against the grammar.
func TestBA5ReadForm(t *testing.T) {
	form := regexp.MustCompile(`^(?:\[plane\]|\[` + valueText + radiusText + `\])$`)
	checkForm := func(s string) bool {
		b, err := ball.Read(s)
		right := form.MatchString(s)
		if right && err != api.OK || !right && (err != api.ErrForm || !alike(b, api.Ball{})) {
			t.Errorf("Read(%q) = %v, %v", s, b, err)
		}
		return right
	}
	r := numbers{147}
	pieces := []string{"[", "]", "~", " ", " ~ ", "1", "0", "0.5", "i", "+", "-", "e", "e-2", "0x", "p", "0x1p3", "inf", "nan", "plane", "\t", "[plane]", ".", "+2i", "-0", "~-0"}
	rights := 0
	for _, s := range []string{"[1+2i ~ 3]", "[plane]", "[0.5e-3-0x1.8p-2i~-0x0p1]", "[1 ~ -0.0e5]", "[-2i]", "[+7  ~+3e2]", "[1~0]"} {
		checkForm(s)
		for range 6000 {
			at, piece := r.below(len(s)+1), pieces[r.below(len(pieces))]
			to := min(len(s), at+r.below(3))
			if checkForm(s[:at] + piece + s[to:]) {
				rights++
			}
		}
	}
	if rights < 3000 {
		t.Error(rights)
	}
}

func TestBA5ReadWrong(t *testing.T) {
	for _, s := range []string{
		"", "[", "]", "[]", "][", "[[1]]", "[1", "1]", "1", "1 ~ 2", "(1~2)", "[1 ]", "[ 1]", " [1]", "[1] ", "[1 ~ 2 ]", "[ 1 ~ 2]", "[1 ~]", "[1~ ]", "[~1]", "[ ~1]", "[~]", "[1~~2]", "[1~2~3]", "[1~2]]", "[[1~2]", "[1]2]", "[1 2]", "[1\t~ 2]", "[1 ~\t2]", "[1\n~2]", "[1\u00a0~2]",
		"[1 ~ -1]", "[1~-1e-400]", "[1~-0x1p-5000]", "[1~-0x0e0p1]", "[1~-0XE.P-1]", "[1~-0x.1P0]", "[1~-3E0]", "[1~-.01]", "[1~-0.0001e-9]", "[1~--0]", "[1~1i]", "[1~1+2i]", "[1~0x1]", "[1+i]", "[i]", "[1+2]",
		"[inf ~ 1]", "[inf]", "[-inf]", "[infi]", "[1+infi]", "[1-infi~2]", "[nan]", "[nan~nan]", "[nani]", "[1-nani]", "[1~inf]", "[1~+inf]", "[1~-inf]", "[1~nan]", "[1~-nan]", "[inf+nani~inf]",
		"[plane ]", "[ plane]", "[Plane]", "plane", "[plane~1]", "[1~plane]", "[plane]]", "[planes]",
	} {
		got, err := ball.Read(s)
		checkErr(t, got, err, api.ErrForm, "Read", s)
	}
}

// TestBA5ReadLong: too many bytes come ahead of all; too many digits behind the form.
func TestBA5ReadLong(t *testing.T) {
	digits := strings.Repeat("1", api.MaxDigits+1)
	noughts := strings.Repeat("0", api.MaxDigits+1)
	for _, s := range []string{
		"[" + digits + "]", "[" + noughts + "~1]", "[1+" + digits + "i]", "[1~" + digits + "]", "[1~-" + noughts + "]", "[1~-0x" + noughts + "p5]", "[1~-0." + noughts + "e5]", "[" + digits + "~-0]", "[" + digits + "i ~ " + digits + "]",
		"[1~0x" + digits + "p1]", strings.Repeat(" ", api.MaxText+1), "[1" + strings.Repeat(" ", api.MaxText-4) + "~1]", strings.Repeat("x", api.MaxText+1),
	} {
		got, err := ball.Read(s)
		checkErr(t, got, err, api.ErrLong, "Read", s)
	}
	for _, s := range []string{
		"[" + digits + "~-1]", "[" + digits + "~x]", "[" + digits + "~inf]", "[" + digits + "+infi]", "[nan-" + digits + "i]", "[1~-" + digits + "]", "[1~-" + noughts + "1]", "[1~-0x" + noughts + "ep5]", "[x~" + digits + "]", "[inf~" + digits + "]", "[" + digits, digits, "[" + digits + " ]",
		strings.Repeat(" ", api.MaxText), "[1" + strings.Repeat(" ", api.MaxText-4) + "~]",
	} {
		got, err := ball.Read(s)
		checkErr(t, got, err, api.ErrForm, "Read", s)
	}
	full := "[1" + strings.Repeat(" ", api.MaxText-5) + "~1]"
	got, err := ball.Read(full)
	check(t, got, err, of(1, 0, 1), "Read", "a text of MaxText bytes")
	if len(full) != api.MaxText {
		t.Error(len(full))
	}
}

// TestBA5ReadHolds: what a text means, exactly, lies in what is read of it.
func TestBA5ReadHolds(t *testing.T) {
	r := numbers{148}
	for range 3000 {
		var part [3]string
		var v [3]*big.Rat
		for i := range part {
			part[i] = decim.Shortest(float64(r.below(1000000))) + "." + decim.Shortest(float64(r.below(1000000))) + "e" + decim.Shortest(float64(r.below(60)-30))
			v[i], _ = new(big.Rat).SetString(part[i])
		}
		b, err := ball.Read("[" + part[0] + "-" + part[1] + "i~" + part[2] + "]")
		if err != api.OK {
			t.Fatal(part, err)
		}
		v[1].Neg(v[1])
		// The text's middle is at most Rad, less the text's radius, away from the ball's.
		rest := new(big.Rat).Sub(new(big.Rat).SetFloat64(b.Rad), v[2])
		x := v[0].Sub(v[0], new(big.Rat).SetFloat64(real(b.Mid)))
		y := v[1].Sub(v[1], new(big.Rat).SetFloat64(imag(b.Mid)))
		far := x.Add(x.Mul(x, x), y.Mul(y, y))
		if rest.Sign() < 0 || far.Cmp(rest.Mul(rest, rest)) > 0 {
			t.Errorf("%v is not in %v", part, b)
		}
	}
}
