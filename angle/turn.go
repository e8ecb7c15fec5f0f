package angle

import (
	"cusp/fixed"
	"cusp/natural"
)

// turn is an angle from 0 to pi: so many eighth turns (quarters of pi) and the arctangent of p / q, that is at most 1/2; or so many less that.
type turn struct {
	eighths uint64
	p, q    []uint32
	short   bool // whether the angle falls short of the eighth turns
}

// turnOf is the angle of a point with parts that are not below 0, and not both 0.
func turnOf(x, y []uint32) turn {
	switch {
	case natural.Cmp(natural.Left(y, 1), x) <= 0:
		return turn{eighths: 0, p: y, q: x}
	case natural.Cmp(natural.Left(x, 1), y) <= 0:
		return turn{eighths: 2, p: x, q: y, short: true}
	case natural.Cmp(x, y) <= 0:
		return turn{eighths: 1, p: natural.Sub(y, x), q: natural.Add(x, y)}
	}
	return turn{eighths: 1, p: natural.Sub(x, y), q: natural.Add(x, y), short: true}
}

// mirrored is the angle of the point with the first part turned in sign.
func (t turn) mirrored() turn {
	return turn{eighths: 4 - t.eighths, p: t.p, q: t.q, short: !t.short}
}

// told is the angle to so many binary digits.
func (t turn) told(bits int) fixed.Bounds {
	if t.eighths == 0 { // no other angle is near 0
		return t.at(bits + natural.Length(t.q) - natural.Length(t.p))
	}
	return t.at(bits)
}

// at is the angle to so many places, at least 2.
func (t turn) at(places int) fixed.Bounds {
	rest := arctan(t.p, t.q, places)
	if t.eighths == 0 {
		return rest
	}
	whole := fixed.Pi(places - 2).Halved().Halved().Times(t.eighths)
	if t.short {
		return whole.Minus(rest)
	}
	return whole.Plus(rest)
}

// arctan is the arctangent of p / q, that is at most 1/2: by Euler's series, of terms that are all above 0. The first is pq / (p^2 + q^2), and the one with the number n is that ahead of it times p^2 / (p^2 + q^2) times 2n / (2n + 1).
func arctan(p, q []uint32, places int) fixed.Bounds {
	square := natural.Mul(p, p)
	below := natural.Add(square, natural.Mul(q, q))
	term, _ := natural.Quo(natural.Left(natural.Mul(p, q), places), below)
	factor, _ := natural.Quo(natural.Left(square, places), below)
	var sum []uint32
	count := uint32(0)
	for len(term) > 0 {
		sum = natural.Add(sum, term)
		count++
		above := natural.Mul(natural.Mul(term, factor), natural.Of(2*uint64(count)))
		term, _ = natural.QuoDigit(natural.Right(above, places), 2*count+1)
	}
	// The factor, at most 1/5, is less than a unit of the last place too small, and no term is above 2/5: so a term, made of one that is less than 2 units too small, and cut, is less than 2/5 + 2/5 + 1, and so less than 2 too small, too. What follows the last one begins below 2, falls to less than a fifth from each to the next, and comes to less than 3.
	return fixed.Short(sum, 2*uint64(count)+3, places)
}
