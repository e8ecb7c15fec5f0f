package round

import (
	"cusp/api"
	"cusp/dyad"
	"cusp/ieee"
)

// The calls of dyad that stand here have errors only for what is no number, and for numbers far longer than those that come of three finite floats.

func exact(f float64) dyad.Num {
	n, _ := dyad.Of(f)
	return n
}

func added(a, b dyad.Num) dyad.Num {
	n, _ := dyad.Add(a, b)
	return n
}

func taken(a, b dyad.Num) dyad.Num {
	n, _ := dyad.Sub(a, b)
	return n
}

func multiplied(a, b dyad.Num) dyad.Num {
	n, _ := dyad.Mul(a, b)
	return n
}

func rounded(a dyad.Num, mode int) float64 {
	f, _ := dyad.Round(a, mode)
	return f
}

// leastRest is a less n times b, n being the whole number nearest to their quotient, of two the even one.
func leastRest(a, b dyad.Num) dyad.Num {
	n, _, _ := dyad.Quo(a, b, 0)
	rest := taken(a, multiplied(n, b))
	next := taken(rest, b) // with n + 1 in n's place
	switch near := dyad.Cmp(dyad.Abs(rest), dyad.Abs(next)); {
	case near > 0, near == 0 && odd(n):
		return next
	}
	return rest
}

// odd tells whether a whole number is odd: an even one has twos in its power of two.
func odd(n dyad.Num) bool { return dyad.Sign(n) != 0 && n.E == 0 }

// finite tells of an infinity, too, that it isn't: taken from itself it leaves a NaN.
func finite(f float64) bool { return f-f == 0 }

// plain tells whether a float is finite and no nought: in products, quotients and roots only such ones leave something to round.
func plain(f float64) bool { return finite(f) && f != 0 }

// noughtOf is the nought that two numbers with these signs come to when added. With like signs only noughts do.
func noughtOf(negA, negB bool, mode int) float64 {
	neg := negA
	if negA != negB {
		neg = mode == api.Down
	}
	return ieee.Make(neg, 0, 0, mode)
}
