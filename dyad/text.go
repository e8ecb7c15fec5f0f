package dyad

import (
	"strconv"
	"strings"

	"cusp/api"
	"cusp/natural"
)

const (
	textWidth = natural.Width / 4 // digits in base 16 of a digit
	maxText   = MaxBits/4 + 8     // a minus, the digits, a p, E with its minus
)

// Show is a Num as text.
func Show(a Num) string {
	switch {
	case !mayBe(a):
		return ""
	case len(a.M) == 0:
		return "0p0"
	}
	var b strings.Builder
	if a.Neg {
		b.WriteByte('-')
	}
	last := len(a.M) - 1
	b.WriteString(strconv.FormatUint(uint64(a.M[last]), 16))
	for i := last - 1; i >= 0; i-- {
		s := strconv.FormatUint(uint64(a.M[i]), 16)
		b.WriteString(strings.Repeat("0", textWidth-len(s)))
		b.WriteString(s)
	}
	b.WriteByte('p')
	b.WriteString(strconv.Itoa(a.E))
	return b.String()
}

// Read is the Num of a text.
func Read(s string) (Num, api.Errno) {
	if len(s) > maxText {
		return Num{}, api.ErrForm
	}
	body, neg := strings.CutPrefix(s, "-")
	digits, exponent, _ := strings.Cut(body, "p")
	e, err := strconv.Atoi(exponent)
	if err != nil {
		return Num{}, api.ErrForm
	}
	a := Num{Neg: neg, M: natural.Trim(readDigits(digits)), E: e}
	if Show(a) != s { // needless noughts, an even M, capitals: whatever no Num is shown by
		return Num{}, api.ErrForm
	}
	return a, api.OK
}

// readDigits is a whole number in base 16. A text that is none comes out as some number, that is shown by another text.
func readDigits(s string) []uint32 {
	m := make([]uint32, (len(s)+textWidth-1)/textWidth)
	for i := range m {
		end := len(s) - textWidth*i
		d, _ := strconv.ParseUint(s[max(0, end-textWidth):end], 16, natural.Width)
		m[i] = uint32(d)
	}
	return m
}
