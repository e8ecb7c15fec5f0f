package times

import (
	"math/bits"

	"cusp/api"
	"cusp/arith"
	"cusp/ball"
	"cusp/plus"
)

// The functions of this file take balls that may be.

// mayBe tells whether all of these balls may be.
func mayBe(list ...api.Ball) bool {
	for _, b := range list {
		if !ball.Valid(b) {
			return false
		}
	}
	return true
}

// one is the point 1.
func one() api.Ball { return api.Ball{Mid: 1} }

// product is a * b.
func product(a, b api.Ball) api.Ball {
	if ball.Whole(a) || ball.Whole(b) {
		return ball.Plane()
	}
	mid := arith.Mul(a.Mid, b.Mid, api.Near)
	out, err := ball.Of(mid, radius(a, b, mid))
	if err != api.OK { // a part of the middle is infinite
		return ball.Plane()
	}
	return out
}

// power is b to the n, that is above 0.
func power(b api.Ball, n int) api.Ball {
	out := b // for the highest binary digit
	for place := bits.Len(uint(n)) - 2; place >= 0; place-- {
		out = product(out, out)
		if n>>place&1 == 1 {
			out = product(out, b)
		}
	}
	return out
}

// dot is the sum of the products of two lists of one length.
func dot(a, b []api.Ball) api.Ball {
	var out api.Ball
	for i := range a {
		more := product(a[i], b[i])
		if i == 0 {
			out = more // not added to the point 0, which could turn a nought's sign
			continue
		}
		out, _ = plus.Add(out, more)
	}
	return out
}

// coefficient is the k-th one of the product of two rows.
func coefficient(a, b []api.Ball, k int) api.Ball {
	var left, right []api.Ball
	for i := max(0, k-len(b)+1); i <= k && i < len(a); i++ { // a[i] and b[k-i] are both there
		left, right = append(left, a[i]), append(right, b[k-i])
	}
	return dot(left, right)
}
