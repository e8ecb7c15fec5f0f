package dyad_test

import (
	"math/big"
	"strconv"
	"strings"
	"testing"

	"cusp/api"
	"cusp/dyad"
)

// shown is a's text by another way.
func shown(a dyad.Num) string { return toBig(a).Text(16) + "p" + strconv.Itoa(a.E) }

func TestD5Show(t *testing.T) {
	for _, c := range []struct {
		a    dyad.Num
		want string
	}{
		{dyad.Num{}, "0p0"}, {of(0.75), "3p-2"}, {dyad.Whole(-12), "-3p2"}, {pow(0), "1p0"}, {pow(maxExp), "1p65536"}, {minus(pow(-maxExp)), "-1p-65536"},
		{dyad.Num{M: []uint32{1, 1}}, "100000001p0"}, {dyad.Num{M: []uint32{0xabcdef1, 0, 0x10}, E: 10}, "10000000000abcdef1p10"}, {dyad.Num{Neg: true, M: []uint32{0xffffffff, 0xf}, E: -7}, "-fffffffffp-7"},
	} {
		if got := dyad.Show(c.a); got != c.want {
			t.Errorf("Show = %q, want %q", got, c.want)
		}
	}
}

func TestD5ReadOfShow(t *testing.T) {
	list := edges()
	r := numbers{12}
	for i := range 1000 {
		list = append(list, r.num(1+i%200, 500))
	}
	for _, a := range list {
		s := dyad.Show(a)
		if s != shown(a) {
			t.Errorf("Show(%s) is %.60q", brief(a), s)
		}
		got, err := dyad.Read(s)
		wantNum(t, "Read of Show", got, err, a)
	}
}

func TestD5ReadWrong(t *testing.T) {
	long := strings.Repeat("f", maxBits/4)
	list := []string{
		"", "p", "-", "-p", "0", "1", "3", "p0", "1p", "-1p", "p-1", "-p0", "1 p0", " 1p0", "1p0 ", "1p 0", "1p0\n", "1p0p0", "1pp0", "1p0x", "x1p0",
		"-0p0", "0p1", "0p-1", "00p0", "0p00", "0p-0", "-0p5", "0p65537",
		"01p0", "-01p0", "001p0", "1p00", "1p01", "1p-0", "1p-01", "1p+1", "+1p0", "1p--1", "--1p0", "1p-", "1p1_0", "1_1p0", "0x1p0", "1p0x1", "1p1.0", "1.p0", "1p1e1",
		"Ap0", "aBp0", "1P0", "bP0", "gp0", "1gp0", "100000000gp0", "g00000001p0",
		"2p0", "16ap-8", "ap0", "100000000p0", "-6p1", "8p3",
		"1p65537", "1p-65537", "-1p65537", "1p9223372036854775807", "1p9223372036854775808", "1p-9223372036854775808", "1p99999999999999999999", "1p4294967296", "1p18446744073709551616",
		"1" + long + "p0", "-1" + long + "p0", "1" + strings.Repeat("0", maxBits/4-1) + "1p0", "0" + long + "p0", long + "fp0", long + "p65537", "f" + long + "p-65536",
		strings.Repeat("0", 1<<20) + "p0", "1p" + strings.Repeat("0", 1<<20), strings.Repeat("1", 1<<20),
		"\x001p0", "1p0\x00", "é1p0", "1\xffp0", "１p0", "1p１", "-\x80", "−1p0",
	}
	for _, s := range list {
		got, err := dyad.Read(s)
		wantErr(t, "Read "+strconv.Quote(s[:min(len(s), 40)]), got, err, api.ErrForm)
	}
	for _, s := range []string{"0p0", "1p0", "-1p-65536", long + "p65536", "-" + long + "p-65536"} {
		got, err := dyad.Read(s)
		if err != api.OK || dyad.Show(got) != s || !dyad.Valid(got) {
			t.Errorf("Read(%.40q) = %s, %v", s, brief(got), err)
		}
	}
}

// TestD5ShortTexts: each text of up to five signs is read just where it is the Show of a Num.
func TestD5ShortTexts(t *testing.T) {
	const signs = "-0123abfp+A"
	var try func(s string)
	try = func(s string) {
		got, err := dyad.Read(s)
		want, ok := plainRead(s)
		if ok {
			wantNum(t, "Read "+s, got, err, want)
		} else {
			wantErr(t, "Read "+s, got, err, api.ErrForm)
		}
		if len(s) < 5 {
			for _, c := range signs {
				try(s + string(c))
			}
		}
	}
	try("")
}

// plainRead reads by the rule that a text is some Num's Show.
func plainRead(s string) (dyad.Num, bool) {
	digits, exponent, _ := strings.Cut(s, "p")
	m, ok := new(big.Int).SetString(digits, 16)
	e, err := strconv.Atoi(exponent)
	if !ok || err != nil {
		return dyad.Num{}, false
	}
	a := ofBig(m, e)
	return a, shown(a) == s && (len(a.M) > 0 || a.E == 0)
}
