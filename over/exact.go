package over

import (
	"cusp/api"
	"cusp/ball"
	"cusp/dyad"
	"cusp/ieee"
	"cusp/plus"
	"cusp/times"
)

// The calls of dyad that stand here have errors only for what is no number, for a divisor nought, and for numbers far longer than the products of three floats.

func exact(f float64) dyad.Num {
	n, _ := dyad.Of(f)
	return n
}

func added(a, b dyad.Num) dyad.Num {
	n, _ := dyad.Add(a, b)
	return n
}

func taken(a, b dyad.Num) dyad.Num {
	n, _ := dyad.Sub(a, b)
	return n
}

func multiplied(a, b dyad.Num) dyad.Num {
	n, _ := dyad.Mul(a, b)
	return n
}

// square is that of a float.
func square(f float64) dyad.Num { return multiplied(exact(f), exact(f)) }

// room is how much more the square of the middle's magnitude is than that of the radius.
func room(b api.Ball) dyad.Num {
	norm := added(square(real(b.Mid)), square(imag(b.Mid)))
	return taken(norm, square(b.Rad))
}

// share is x / d, rounded to the nearest, for a d above 0.
func share(x float64, d dyad.Num) float64 {
	f, _ := dyad.Ratio(exact(x), d, api.Near)
	return ieee.With(f, x) // 0 / d has lost the sign of x
}

// missed is how far a share of x, times d, is from x.
func missed(share float64, d dyad.Num, x float64) dyad.Num {
	return dyad.Abs(taken(multiplied(exact(share), d), exact(x)))
}

// inverse is the ball of the inverses of one that may be and does not hold nought.
func inverse(b api.Ball) api.Ball {
	d := room(b)
	x, y := real(b.Mid), -imag(b.Mid)
	u, v := share(x, d), share(y, d)
	// Divided by d all at once, so that the radius is rounded once.
	far := added(exact(b.Rad), added(missed(u, d, x), missed(v, d, y)))
	rad, _ := dyad.Ratio(far, d, api.Up)
	out, err := ball.Of(complex(u, v), rad)
	if err != api.OK { // a part of the middle is infinite, so that the radius counts for nothing
		return ball.Plane()
	}
	return out
}

// finite tells what is wrong with some values: a NaN, wherever it stands, goes ahead of the infinities.
func finite(list ...complex128) api.Errno {
	worst := api.OK
	for _, z := range list {
		switch _, err := ball.Of(z, 0); err {
		case api.ErrNaN:
			return err
		case api.ErrInf:
			worst = err
		}
	}
	return worst
}

// line is a * z + b, of finite numbers and a ball that may be.
func line(a complex128, z api.Ball, b complex128) api.Ball {
	product, _ := times.Mul(api.Ball{Mid: a}, z)
	sum, _ := plus.Add(product, api.Ball{Mid: b})
	return sum
}
