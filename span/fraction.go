package span

import (
	"cusp/api"
	"cusp/dyad"
)

// The calls of dyad that stand here have no errors: no number is longer than a few floats, each written out from 2^1024 to 2^-1074.

// fraction is p / q; with q nought it is +Inf.
type fraction struct{ p, q dyad.Num }

func fractionOf(f float64) fraction {
	n, err := dyad.Of(f)
	if err != api.OK {
		return fraction{p: dyad.Whole(1)}
	}
	return fraction{p: n, q: dyad.Whole(1)}
}

// floor is the greatest whole number that is not above f, and whether it is f.
func (f fraction) floor() (dyad.Num, bool) {
	n, exact, _ := dyad.Quo(f.p, f.q, 0)
	return n, exact
}

// below tells whether f is below a whole number.
func (f fraction) below(n dyad.Num) bool {
	times, _ := dyad.Mul(n, f.q)
	return dyad.Cmp(f.p, times) < 0
}

// rest is one over what is left of f when a whole number is taken from it.
func (f fraction) rest(n dyad.Num) fraction {
	times, _ := dyad.Mul(n, f.q)
	left, _ := dyad.Sub(f.p, times)
	return fraction{p: f.q, q: left}
}

// simplest is the fraction with the least q in an interval that has no number below 0: the continued fraction that both ends begin with, and then the least whole number that lies between what is left of them.
func simplest(a api.Interval) fraction {
	lo, hi := fractionOf(a.Lo), fractionOf(a.Hi)
	before, last := fraction{q: dyad.Whole(1)}, fraction{p: dyad.Whole(1)}
	for {
		floor, exact := lo.floor()
		first := floor // the least whole number that is not below lo
		if !exact {
			first, _ = dyad.Add(floor, dyad.Whole(1))
		}
		if !hi.below(first) {
			return continued(before, last, first)
		}
		before, last = last, continued(before, last, floor)
		lo, hi = hi.rest(floor), lo.rest(floor) // one over a number falls as it rises
	}
}

// continued is the fraction that comes after two with one more term of a continued fraction.
func continued(before, last fraction, term dyad.Num) fraction {
	return fraction{p: andTimes(before.p, last.p, term), q: andTimes(before.q, last.q, term)}
}

// andTimes is a + b * n.
func andTimes(a, b, n dyad.Num) dyad.Num {
	product, _ := dyad.Mul(b, n)
	sum, _ := dyad.Add(a, product)
	return sum
}
