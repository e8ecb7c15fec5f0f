// Package natural works on whole numbers of any length, for the layers that tell numbers exactly: digits of 32 bits, the lowest first, the last one not 0; nought has none. None of its functions changes what it is handed; all but Trim answer new memory.
package natural

import (
	"cmp"
	"math/bits"
)

// Width is how many binary digits a digit has.
const Width = 32

// Trim leaves the noughts at the high end out.
func Trim(m []uint32) []uint32 {
	for len(m) > 0 && m[len(m)-1] == 0 {
		m = m[:len(m)-1]
	}
	return m
}

// Of is a word as digits.
func Of(n uint64) []uint32 { return Trim([]uint32{uint32(n), uint32(n >> Width)}) }

// Length is how many binary digits a number has.
func Length(m []uint32) int {
	if len(m) == 0 {
		return 0
	}
	return Width*(len(m)-1) + bits.Len32(m[len(m)-1])
}

// Trailing is how many binary noughts a number that is not 0 ends with.
func Trailing(m []uint32) int {
	i := 0
	for m[i] == 0 {
		i++
	}
	return Width*i + bits.TrailingZeros32(m[i])
}

// Word is a number below 2^64; of a greater one it is the lowest 64 binary digits.
func Word(m []uint32) uint64 {
	n := uint64(0)
	for i, d := range m {
		n |= uint64(d) << (Width * i)
	}
	return n
}

// Left is m times 2^k.
func Left(m []uint32, k int) []uint32 {
	whole, part := k/Width, k%Width
	if len(m) == 0 {
		return nil
	}
	out := make([]uint32, whole+len(m)+1)
	carry := uint32(0)
	for i, d := range m {
		wide := uint64(d) << part
		out[whole+i] = uint32(wide) | carry
		carry = uint32(wide >> Width)
	}
	out[whole+len(m)] = carry
	return Trim(out)
}

// Right is the whole part of m over 2^k.
func Right(m []uint32, k int) []uint32 {
	whole, part := k/Width, k%Width
	if whole >= len(m) {
		return nil
	}
	m = m[whole:]
	out := make([]uint32, len(m))
	for i, d := range m {
		wide := uint64(d)
		if i+1 < len(m) {
			wide |= uint64(m[i+1]) << Width
		}
		out[i] = uint32(wide >> part)
	}
	return Trim(out)
}

// Cmp is -1, 0 or 1: a is below b, is b, is above b.
func Cmp(a, b []uint32) int {
	if len(a) != len(b) {
		return cmp.Compare(len(a), len(b))
	}
	for i := len(a) - 1; i >= 0; i-- {
		if a[i] != b[i] {
			return cmp.Compare(a[i], b[i])
		}
	}
	return 0
}

// Add is a + b.
func Add(a, b []uint32) []uint32 {
	if len(a) < len(b) {
		a, b = b, a
	}
	out := make([]uint32, len(a)+1)
	carry := uint64(0)
	for i, d := range a {
		carry += uint64(d)
		if i < len(b) {
			carry += uint64(b[i])
		}
		out[i] = uint32(carry)
		carry >>= Width
	}
	out[len(a)] = uint32(carry)
	return Trim(out)
}

// Sub is a - b, of a that is not below b.
func Sub(a, b []uint32) []uint32 {
	out := make([]uint32, len(a))
	borrow := uint32(0)
	for i, d := range a {
		take := uint32(0)
		if i < len(b) {
			take = b[i]
		}
		out[i], borrow = bits.Sub32(d, take, borrow)
	}
	return Trim(out)
}

// Mul is a * b.
func Mul(a, b []uint32) []uint32 {
	out := make([]uint32, len(a)+len(b))
	for i, x := range a {
		carry := uint64(0)
		for j, y := range b {
			carry += uint64(x)*uint64(y) + uint64(out[i+j]) // at most 2^64 - 1 in all
			out[i+j] = uint32(carry)
			carry >>= Width
		}
		out[i+len(b)] = uint32(carry)
	}
	return Trim(out)
}
