package dyad

import (
	"cmp"
	"slices"

	"cusp/api"
	"cusp/natural"
)

// The functions of this file take and answer Nums in their one form, but of any length: what is on the way to an answer may be longer than the answer.

// mayBe tells whether all of these Nums may be.
func mayBe(list ...Num) bool {
	for _, a := range list {
		if !Valid(a) {
			return false
		}
	}
	return true
}

// bounded is a number as an answer: one that is too long is none.
func bounded(a Num) (Num, api.Errno) {
	if !Valid(a) {
		return Num{}, api.ErrLong
	}
	return a, api.OK
}

// normal is the Num of the digits m (in new memory) times 2 to the e.
func normal(neg bool, m []uint32, e int) Num {
	m = natural.Trim(m)
	if len(m) == 0 {
		return Num{}
	}
	low := natural.Trailing(m)
	return Num{Neg: neg, M: natural.Right(m, low), E: e + low}
}

func negated(a Num) Num {
	return Num{Neg: !a.Neg && len(a.M) > 0, M: slices.Clone(a.M), E: a.E}
}

func sign(a Num) int {
	switch {
	case len(a.M) == 0:
		return 0
	case a.Neg:
		return -1
	}
	return 1
}

func top(a Num) int { return natural.Length(a.M) + a.E }

// aligned are the digits of two numbers at one exponent, the lesser one of theirs.
func aligned(a, b Num) ([]uint32, []uint32, int) {
	e := min(a.E, b.E)
	return natural.Left(a.M, a.E-e), natural.Left(b.M, b.E-e), e
}

func compare(a, b Num) int {
	s := sign(a)
	switch {
	case s != sign(b):
		return cmp.Compare(s, sign(b))
	case s == 0:
		return 0
	case top(a) != top(b): // ahead of aligning, which may take long
		return s * cmp.Compare(top(a), top(b))
	}
	m, n, _ := aligned(a, b)
	return s * natural.Cmp(m, n)
}

func sum(a, b Num) Num {
	switch {
	case len(a.M) == 0:
		return normal(b.Neg, b.M, b.E)
	case len(b.M) == 0:
		return normal(a.Neg, a.M, a.E)
	}
	m, n, e := aligned(a, b)
	switch {
	case a.Neg == b.Neg:
		return normal(a.Neg, natural.Add(m, n), e)
	case natural.Cmp(m, n) < 0:
		return normal(b.Neg, natural.Sub(n, m), e)
	}
	return normal(a.Neg, natural.Sub(m, n), e)
}

func product(a, b Num) Num {
	return normal(a.Neg != b.Neg, natural.Mul(a.M, b.M), a.E+b.E)
}
