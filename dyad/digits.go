package dyad

import (
	"cmp"
	"math/bits"
)

// The functions of this file work on whole numbers: digits of 32 bits, the lowest first, the last one not 0; nought has none. None changes what it is handed; all but trim answer new memory.

const width = 32 // binary digits of a digit

// trim leaves the noughts at the high end out.
func trim(m []uint32) []uint32 {
	for len(m) > 0 && m[len(m)-1] == 0 {
		m = m[:len(m)-1]
	}
	return m
}

func digitsOf(n uint64) []uint32 { return trim([]uint32{uint32(n), uint32(n >> width)}) }

// length is how many binary digits a number has.
func length(m []uint32) int {
	if len(m) == 0 {
		return 0
	}
	return width*(len(m)-1) + bits.Len32(m[len(m)-1])
}

// trailing is how many binary noughts a number that is not 0 ends with.
func trailing(m []uint32) int {
	i := 0
	for m[i] == 0 {
		i++
	}
	return width*i + bits.TrailingZeros32(m[i])
}

func shiftLeft(m []uint32, k int) []uint32 {
	whole, part := k/width, k%width
	if len(m) == 0 {
		return nil
	}
	out := make([]uint32, whole+len(m)+1)
	carry := uint32(0)
	for i, d := range m {
		wide := uint64(d) << part
		out[whole+i] = uint32(wide) | carry
		carry = uint32(wide >> width)
	}
	out[whole+len(m)] = carry
	return trim(out)
}

func shiftRight(m []uint32, k int) []uint32 {
	whole, part := k/width, k%width
	if whole >= len(m) {
		return nil
	}
	m = m[whole:]
	out := make([]uint32, len(m))
	for i, d := range m {
		wide := uint64(d)
		if i+1 < len(m) {
			wide |= uint64(m[i+1]) << width
		}
		out[i] = uint32(wide >> part)
	}
	return trim(out)
}

func compareDigits(a, b []uint32) int {
	if len(a) != len(b) {
		return cmp.Compare(len(a), len(b))
	}
	for i := len(a) - 1; i >= 0; i-- {
		if a[i] != b[i] {
			return cmp.Compare(a[i], b[i])
		}
	}
	return 0
}

func addDigits(a, b []uint32) []uint32 {
	if len(a) < len(b) {
		a, b = b, a
	}
	out := make([]uint32, len(a)+1)
	carry := uint64(0)
	for i, d := range a {
		carry += uint64(d)
		if i < len(b) {
			carry += uint64(b[i])
		}
		out[i] = uint32(carry)
		carry >>= width
	}
	out[len(a)] = uint32(carry)
	return trim(out)
}

// subDigits is a - b, of a that is not below b.
func subDigits(a, b []uint32) []uint32 {
	out := make([]uint32, len(a))
	borrow := uint32(0)
	for i, d := range a {
		take := uint32(0)
		if i < len(b) {
			take = b[i]
		}
		out[i], borrow = bits.Sub32(d, take, borrow)
	}
	return trim(out)
}

func mulDigits(a, b []uint32) []uint32 {
	out := make([]uint32, len(a)+len(b))
	for i, x := range a {
		carry := uint64(0)
		for j, y := range b {
			carry += uint64(x)*uint64(y) + uint64(out[i+j]) // at most 2^64 - 1 in all
			out[i+j] = uint32(carry)
			carry >>= width
		}
		out[i+len(b)] = uint32(carry)
	}
	return trim(out)
}
