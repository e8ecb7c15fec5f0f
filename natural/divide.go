package natural

import "math/bits"

// Quo is m over d, that is not 0: the whole quotient, and whether nothing is left over.
func Quo(m, d []uint32) ([]uint32, bool) {
	if Cmp(m, d) < 0 {
		return nil, len(m) == 0
	}
	// With the highest bit of d set a guess from the highest digits is at most a little too great.
	spare := bits.LeadingZeros32(d[len(d)-1])
	d = Left(d, spare)
	rest := append(Left(m, spare), 0) // a digit above all, for the first guess
	out := make([]uint32, len(rest)-len(d))
	for i := len(out) - 1; i >= 0; i-- {
		out[i] = takeOut(rest[i:i+len(d)+1], d)
	}
	return Trim(out), len(Trim(rest)) == 0
}

// QuoDigit is m over one digit, that is not 0: the whole quotient, and what is left over.
func QuoDigit(m []uint32, d uint32) ([]uint32, uint32) {
	out := make([]uint32, len(m))
	rest := uint64(0)
	for i := len(m) - 1; i >= 0; i-- {
		rest = rest<<Width | uint64(m[i])
		out[i] = uint32(rest / uint64(d))
		rest %= uint64(d)
	}
	return Trim(out), uint32(rest)
}

// takeOut leaves of rest (a digit longer than d, and below d times 2^32) what d does not go into, and tells how often it went.
func takeOut(rest, d []uint32) uint32 {
	times := guess(rest, d)
	if lessTimes(rest, d, times) { // seldom: once too often
		times--
		giveBack(rest, d)
	}
	return times
}

// guess tells how often d goes into rest, or one more than that.
func guess(rest, d []uint32) uint32 {
	n := len(d)
	high, first := uint64(rest[n])<<Width|uint64(rest[n-1]), uint64(d[n-1])
	times := min(high/first, 1<<Width-1)
	if n == 1 {
		return uint32(times)
	}
	left := high - times*first
	for left < 1<<Width && times*uint64(d[n-2]) > left<<Width|uint64(rest[n-2]) {
		times--
		left += first
	}
	return uint32(times)
}

// lessTimes takes d from rest so many times, and tells whether that went below 0 (and round).
func lessTimes(rest, d []uint32, times uint32) bool {
	carry, borrow := uint64(0), uint32(0)
	for i, x := range d {
		carry += uint64(x) * uint64(times)
		rest[i], borrow = bits.Sub32(rest[i], uint32(carry), borrow)
		carry >>= Width
	}
	rest[len(d)], borrow = bits.Sub32(rest[len(d)], uint32(carry), borrow)
	return borrow != 0
}

// giveBack adds d to rest, round to what it was before it went below 0.
func giveBack(rest, d []uint32) {
	carry := uint32(0)
	for i, x := range d {
		rest[i], carry = bits.Add32(rest[i], x, carry)
	}
	rest[len(d)] += carry
}

// Root is the whole part of the square root, and whether it is the root.
func Root(n []uint32) ([]uint32, bool) {
	if len(n) == 0 {
		return nil, true
	}
	// Each step is one of Newton's on the highest binary digits of n, and makes the known ones of the root twice as many. Always (root-1)^2 < those of n < (root+1)^2.
	half := (Length(n) - 1) / 2
	root, known := Of(1), 0
	for s := bits.Len(uint(half)) - 1; s >= 0; s-- {
		before := known
		known = half >> s
		more, _ := Quo(Right(n, 2*half-before-known+1), root)
		root = Add(Left(root, known-before-1), more)
	}
	far := Cmp(Mul(root, root), n)
	if far > 0 {
		root = Sub(root, Of(1))
	}
	return root, far == 0
}
