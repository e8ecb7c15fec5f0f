package sums

import (
	"iter"
	"math"

	"cusp/api"
	"cusp/dyad"
	"cusp/round"
)

// The calls of dyad that stand here have errors only for what is no number, and for numbers far longer than those that come of MaxList products of finite floats.

// floats are the numbers of a list.
func floats(l []float64) iter.Seq[dyad.Num] {
	return func(yield func(dyad.Num) bool) {
		for _, x := range l {
			if !yield(exact(x)) {
				return
			}
		}
	}
}

// products are those of two lists that are as long, one by one.
func products(a, b []float64) iter.Seq[dyad.Num] {
	return func(yield func(dyad.Num) bool) {
		for i, x := range a {
			n, _ := dyad.Mul(exact(x), exact(b[i]))
			if !yield(n) {
				return
			}
		}
	}
}

// parts are the floats that a sum comes apart into, the greatest first. They come to an end: each leaves at most half of what was there, and a sum of floats has no digits finer than theirs.
func parts(sum dyad.Num) iter.Seq[float64] {
	return func(yield func(float64) bool) {
		for dyad.Sign(sum) != 0 {
			part := rounded(sum, api.Near)
			if !yield(part) {
				return
			}
			sum = taken(sum, part)
		}
	}
}

func total(parts iter.Seq[dyad.Num]) dyad.Num {
	sum := dyad.Whole(0)
	for n := range parts {
		sum, _ = dyad.Add(sum, n)
	}
	return sum
}

func exact(f float64) dyad.Num {
	n, _ := dyad.Of(f)
	return n
}

func taken(a dyad.Num, f float64) dyad.Num {
	n, _ := dyad.Sub(a, exact(f))
	return n
}

func rounded(a dyad.Num, mode int) float64 {
	f, _ := dyad.Round(a, mode)
	return f
}

// checked tells what is wrong with a mode and the floats of some lists. A NaN anywhere comes ahead of every infinity.
func checked(mode int, lists ...[]float64) api.Errno {
	if err := round.Valid(mode); err != api.OK {
		return err
	}
	err := api.OK
	for _, l := range lists {
		switch {
		case len(l) > api.MaxList:
			return api.ErrLong
		case anyNaN(l):
			err = api.ErrNaN
		case err == api.OK && !allFinite(l):
			err = api.ErrInf
		}
	}
	return err
}

func anyNaN(l []float64) bool {
	for _, x := range l {
		if x != x {
			return true
		}
	}
	return false
}

func allFinite(l []float64) bool {
	for _, x := range l {
		if !finite(x) {
			return false
		}
	}
	return true
}

func allMinusNought(l []float64) bool {
	for _, x := range l {
		if x != 0 || !math.Signbit(x) {
			return false
		}
	}
	return true
}

// finite tells of an infinity, too, that it isn't: taken from itself it leaves a NaN.
func finite(f float64) bool { return f-f == 0 }
