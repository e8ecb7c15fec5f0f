package root

import (
	"cusp/dyad"
	"cusp/ieee"
)

// Where roots are cut: no float, and no number halfway between two, has a binary digit behind partPlace; the square of a number cut there has none behind 2 * partPlace, nor has half of a number cut at absPlace.
const (
	partPlace = 1075
	absPlace  = 2*partPlace - 1
)

// The calls of dyad that stand here have errors only for what is no number, for roots of numbers below 0, and for numbers far longer than the squares of two floats.

func exact(f float64) dyad.Num {
	n, _ := dyad.Of(f)
	return n
}

func added(a, b dyad.Num) dyad.Num {
	n, _ := dyad.Add(a, b)
	return n
}

func square(f float64) dyad.Num {
	n, _ := dyad.Mul(exact(f), exact(f))
	return n
}

// cut is a number without its digits behind some place, and whether that is all of it.
type cut struct {
	num dyad.Num
	all bool
}

// rootAt is the square root of a number that is not below 0, cut.
func rootAt(a dyad.Num, place int) cut {
	n, all, _ := dyad.Root(a, place)
	return cut{n, all}
}

// parts are numbers that are rounded as the parts of a principal square root are.
type parts struct {
	re, im dyad.Num
	sign   float64 // has that of the imaginary part
}

// partsOf are those of a finite value's root.
func partsOf(z complex128) parts {
	x, y := real(z), imag(z)
	abs := rootAt(added(square(x), square(y)), absPlace)
	im := halfRoot(abs, exact(-x))
	if _, below := ieee.Class(y); below { // by -0, too: on the cut that is from below
		im = dyad.Neg(im)
	}
	return parts{re: halfRoot(abs, exact(x)), im: im, sign: y}
}

// halfRoot stands for the square root of half of the sum of a magnitude and one of its parts.
func halfRoot(abs cut, part dyad.Num) dyad.Num {
	// Counted in units of 2^-(2 * partPlace) the half is whole, but for what abs was cut by; and the whole part of a number's root is that of the whole part's root. So no digit is wrong.
	half, _ := dyad.Shift(added(abs.num, part), -1)
	root := rootAt(half, partPlace)
	if abs.all && root.all {
		return root.num
	}
	// Rounding asks of what was cut off only that it is there: one digit stands for it.
	more, _ := dyad.Shift(dyad.Whole(1), -partPlace-1)
	return added(root.num, more)
}

// rounded is the root, each part rounded once.
func (p parts) rounded(mode int) complex128 {
	re, _ := dyad.Round(p.re, mode)
	im, _ := dyad.Round(p.im, mode)
	return complex(re, ieee.With(im, p.sign)) // an exact 0 has lost its sign
}
