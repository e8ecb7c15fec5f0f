package trig

import (
	"cusp/api"
	"cusp/fixed"
	"cusp/natural"
)

// sine is the least interval that holds the sine of so many quarter turns and the rest.
func (t turn) sine(quarters uint64) api.Interval {
	odd := quarters%2 == 1
	size := fixed.Least(func(bits int) fixed.Bounds {
		sine, cosine := t.circle(bits)
		if odd {
			return cosine
		}
		return sine
	})
	return turned(size, (quarters%4 >= 2) != (t.below() && !odd))
}

// tangent is that of the tangent.
func (t turn) tangent() api.Interval {
	odd := t.quarters()%2 == 1
	size := fixed.Least(func(bits int) fixed.Bounds {
		sine, cosine := t.circle(bits)
		if odd {
			return cosine.Over(sine)
		}
		return sine.Over(cosine)
	})
	return turned(size, t.below() != odd)
}

// circle are the sine and the cosine of the rest's magnitude.
func (t turn) circle(bits int) (fixed.Bounds, fixed.Bounds) {
	rest := t.rest(bits)
	sine, cosine := waves(rest.Lo, rest.Places)
	// The sine rises by no more than the rest does, the cosine falls by no more.
	apart := natural.Sub(rest.Hi, rest.Lo)
	sine.Hi = natural.Add(sine.Hi, apart)
	cosine.Lo = natural.Sub(cosine.Lo, apart)
	return sine, cosine
}

// waves are the sine and the cosine of y units of the last place, that come to less than 1: sums of y^n / n!, by the rest of n by 4.
func waves(y []uint32, places int) (fixed.Bounds, fixed.Bounds) {
	var sums [4][]uint32
	term := natural.Left(natural.Of(1), places)
	count := uint32(0)
	for len(term) > 0 {
		sums[count%4] = natural.Add(sums[count%4], term)
		count++
		term, _ = natural.QuoDigit(natural.Right(natural.Mul(term, y), places), count)
	}
	// The first two terms are exact. Each other one is made of one that is less than 2 units of the last place too small, over 2 at least, and cut: so it is less than 2 too small, too. What follows the last one begins below 2, falls to less than half from each to the next, and comes to less than 4.
	sum := func(n int) fixed.Bounds { return fixed.Short(sums[n], 2*(uint64(count)+2), places) }
	return sum(1).Minus(sum(3)), sum(0).Minus(sum(2))
}
