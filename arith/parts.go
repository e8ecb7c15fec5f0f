package arith

import (
	"math"
	"math/bits"

	"cusp/api"
	"cusp/dyad"
	"cusp/ieee"
	"cusp/point"
	"cusp/round"
)

// The calls of dyad that stand here have errors only for what is no number, and for numbers far longer than those that come of four finite floats.

// pair is two products of finite floats that are to be added: x * u and y * v.
type pair struct{ x, u, y, v float64 }

// sum is the exact one.
func (p pair) sum() dyad.Num {
	n, _ := dyad.Add(product(p.x, p.u), product(p.y, p.v))
	return n
}

// over is the exact sum over a number above 0, rounded once.
func (p pair) over(d dyad.Num, mode int) float64 {
	sum := p.sum()
	if dyad.Sign(sum) == 0 {
		// An exact 0 has no sign: it is told as noughts with the products' signs would be, added.
		return round.Add(nought(p.x, p.u), nought(p.y, p.v), mode)
	}
	f, _ := dyad.Ratio(sum, d, mode)
	return f
}

func product(a, b float64) dyad.Num {
	m, _ := dyad.Of(a)
	n, _ := dyad.Of(b)
	p, _ := dyad.Mul(m, n)
	return p
}

// nought is the one with the sign that a product has.
func nought(a, b float64) float64 { return ieee.With(0, a) * ieee.With(0, b) }

func powered(z complex128, n uint) complex128 {
	power := complex128(1)
	for place := bits.Len(n) - 1; place >= 0; place-- {
		power = Mul(power, power, api.Near)
		if n>>place&1 == 1 {
			power = Mul(power, z, api.Near)
		}
	}
	return power
}

// between is an operation's value, rounded so that rounding it to 32 bits by the same mode comes to what rounding the exact value once does. Down and Up may be done twice; Near may not.
func between(f int, a, b complex128, mode int) complex128 {
	if mode != api.Near {
		return operated(f, a, b, mode)
	}
	down, up := operated(f, a, b, api.Down), operated(f, a, b, api.Up)
	return complex(odd(real(down), real(up)), odd(imag(down), imag(up)))
}

// odd is, of two neighbours, the one whose last bit is set. No float of 32 bits has that bit, nor has the middle of two: so the odd one lies on the same side of all of these as any number between the neighbours. Where both are equal it is up, which has the noughts that Near has.
func odd(down, up float64) float64 {
	if down == up || math.Float64bits(up)&1 == 1 {
		return up
	}
	return down
}

func operated(f int, a, b complex128, mode int) complex128 {
	switch f {
	case api.FuncAdd:
		return Add(a, b, mode)
	case api.FuncSub:
		return Sub(a, b, mode)
	case api.FuncMul:
		return Mul(a, b, mode)
	case api.FuncDiv:
		return Quo(a, b, mode)
	}
	return noValue()
}

func finite(z complex128) bool {
	class := point.Class(z)
	return class == point.Zero || class == point.Finite
}

// noValue has no number in either part.
func noValue() complex128 { return complex(math.NaN(), math.NaN()) }

// orNaN is what a call answered, a NaN in place of an error.
func orNaN(f float64, err api.Errno) float64 {
	if err != api.OK {
		return math.NaN()
	}
	return f
}
