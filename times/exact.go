package times

import (
	"cusp/api"
	"cusp/dyad"
)

// The calls of dyad that stand here have errors only for what is no number, and for numbers far longer than the squares of products of two floats.

func exact(f float64) dyad.Num {
	n, _ := dyad.Of(f)
	return n
}

func added(a, b dyad.Num) dyad.Num {
	n, _ := dyad.Add(a, b)
	return n
}

func taken(a, b dyad.Num) dyad.Num {
	n, _ := dyad.Sub(a, b)
	return n
}

func multiplied(a, b dyad.Num) dyad.Num {
	n, _ := dyad.Mul(a, b)
	return n
}

func square(a dyad.Num) dyad.Num { return multiplied(a, a) }

// number is a complex number known exactly.
type number struct{ re, im dyad.Num }

func numberOf(z complex128) number { return number{exact(real(z)), exact(imag(z))} }

func (z number) times(w number) number {
	return number{
		taken(multiplied(z.re, w.re), multiplied(z.im, w.im)),
		added(multiplied(z.re, w.im), multiplied(z.im, w.re)),
	}
}

// norm is the square of the magnitude.
func (z number) norm() dyad.Num { return added(square(z.re), square(z.im)) }

// apart is how far the parts of two numbers are from one another, both together.
func (z number) apart(w number) dyad.Num {
	return added(dyad.Abs(taken(z.re, w.re)), dyad.Abs(taken(z.im, w.im)))
}

// radius is how far a product of numbers of two balls, that are not the plane, may be from mid, rounded up once. Where a part of mid is infinite it counts for nothing.
func radius(a, b api.Ball, mid complex128) float64 {
	z, w := numberOf(a.Mid), numberOf(b.Mid)
	r, s := exact(a.Rad), exact(b.Rad)
	known := added(numberOf(mid).apart(z.times(w)), multiplied(r, s))
	// A magnitude times a radius is the root of both squares' product.
	rad, _ := dyad.Up(known, multiplied(z.norm(), square(s)), multiplied(w.norm(), square(r)))
	return rad
}
