package ball

import (
	"math"

	"cusp/api"
	"cusp/arith"
	"cusp/ieee"
	"cusp/round"
)

// step is how far a middle is moved, part by part.
type step [2]float64

// steps lead to the middles of seven discs with half the radius that cover a disc: its own, and those on the six sides of the hexagon with its corners on the circle.
func steps(rad float64) [7]step {
	p := round.Mul(rad, 0.75, api.Near)
	q := round.Mul(rad, 0.4330127018922193, api.Near)
	s := round.Mul(rad, 0.8660254037844386, api.Near)
	return [7]step{{0, 0}, {p, q}, {0, s}, {-p, q}, {-p, -q}, {0, -s}, {p, -q}}
}

// moved is a middle after a step.
func moved(mid complex128, by step) complex128 {
	if by == (step{}) {
		return mid // the sum would make a nought +0
	}
	return arith.Add(mid, complex(by[0], by[1]), api.Near)
}

// seven are the balls that cover one that is neither a point nor the plane.
func seven(b api.Ball) []api.Ball {
	var middles [7]complex128
	for i, by := range steps(b.Rad) {
		middles[i] = moved(b.Mid, by)
	}
	rad := coverRad(b.Rad, middles)
	out := make([]api.Ball, 0, len(middles))
	for _, mid := range middles {
		out = append(out, orPlane(mid, rad))
	}
	return out
}

// coverRad is half of the radius, and more for all that was rounded on the way to the middles.
func coverRad(rad float64, middles [7]complex128) float64 {
	most := 0.0
	for _, mid := range middles {
		most = max(most, math.Abs(real(mid)), math.Abs(imag(mid)))
	}
	unit := ieee.Unit(most)
	sum := round.Mul(rad, 0.5, api.Up)
	for _, more := range [3]float64{round.Mul(rad, 0x1p-50, api.Up), unit, unit} {
		sum = round.Add(sum, more, api.Up)
	}
	return sum
}
