package loga

import (
	"math"

	"cusp/natural"
)

// floatBits is how many binary digits a float has.
const floatBits = 53

// number is one that is not below 0, exactly: digits times 2^power.
type number struct {
	digits []uint32
	power  int
}

// exactly is a finite float that is not below 0.
func exactly(x float64) number {
	part, e := math.Frexp(x)
	return number{digits: natural.Of(uint64(math.Ldexp(part, floatBits))), power: e - floatBits}
}

// oneAnd is 1 + x, for a finite float above -1.
func oneAnd(x float64) number {
	one, size := exactly(1), exactly(math.Abs(x))
	if x < 0 {
		return one.minus(size)
	}
	return one.plus(size)
}

func (n number) squared() number {
	return number{digits: natural.Mul(n.digits, n.digits), power: 2 * n.power}
}

func (n number) plus(m number) number {
	a, b, power := aligned(n, m)
	return number{digits: natural.Add(a, b), power: power}
}

// minus is n less m, that is not above it.
func (n number) minus(m number) number {
	a, b, power := aligned(n, m)
	return number{digits: natural.Sub(a, b), power: power}
}

// aligned are the digits of two numbers with one power of two.
func aligned(n, m number) ([]uint32, []uint32, int) {
	power := min(n.power, m.power)
	return natural.Left(n.digits, n.power-power), natural.Left(m.digits, m.power-power), power
}
