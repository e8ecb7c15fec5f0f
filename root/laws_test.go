package root_test

import (
	"math"
	"math/big"
	"testing"

	"cusp/api"
	"cusp/ball"
	"cusp/root"
)

// A reach is what a part may be, from low to high, in parts.
type reach struct{ low, high *big.Int }

// between holds the part of what is rounded down and of what is rounded up.
func between(down, up float64) reach { return reach{whole(down), whole(up)} }

func (s reach) times(p reach) reach {
	out := reach{multiplied(s.low, p.low), multiplied(s.low, p.low)}
	for _, n := range []*big.Int{multiplied(s.low, p.high), multiplied(s.high, p.low), multiplied(s.high, p.high)} {
		if n.Cmp(out.low) < 0 {
			out.low = n
		}
		if n.Cmp(out.high) > 0 {
			out.high = n
		}
	}
	return out
}

func (s reach) holds(n *big.Int) bool { return s.low.Cmp(n) <= 0 && n.Cmp(s.high) <= 0 }

// TestRO4Square: the square of what is rounded down and up, part by part, holds the value, and so does the square of the magnitude the value's one.
func TestRO4Square(t *testing.T) {
	r := numbers{185}
	for range 4000 {
		z := r.value()
		down, errDown := root.Principal(z, api.Down)
		up, errUp := root.Principal(z, api.Up)
		u, v := between(real(down), real(up)), between(imag(down), imag(up))
		uu, vv, uv := u.times(u), v.times(v), u.times(v)
		vv.low = square(whole(min(math.Abs(imag(down)), math.Abs(imag(up))))) // both have one sign
		re, norm := reach{taken(uu.low, vv.high), taken(uu.high, vv.low)}, reach{added(uu.low, vv.low), added(uu.high, vv.high)}
		x, y := asSquare(whole(real(z))), asSquare(whole(imag(z)))
		im := reach{uv.low.Lsh(uv.low, 1), uv.high.Lsh(uv.high, 1)}
		far := added(square(x), square(y)) // of the magnitude, squared
		if !re.holds(x) || !im.holds(y) || !(reach{square(norm.low), square(norm.high)}).holds(far) || errDown != api.OK || errUp != api.OK {
			t.Errorf("the root of %x: from %x to %x", z, down, up)
		}
	}
}

// TestRO4Conj: the root of the conjugate is the conjugate of the root, Down and Up exchanged in the imaginary part.
func TestRO4Conj(t *testing.T) {
	r := numbers{186}
	for range 2000 {
		z := r.value()
		var got, turned [3]complex128
		for i, mode := range []int{api.Down, api.Near, api.Up} {
			got[i], _ = root.Principal(z, mode)
			turned[i], _ = root.Principal(conjugate(z), mode)
		}
		for i := range got {
			if !sameValue(turned[i], complex(real(got[i]), -imag(got[2-i]))) {
				t.Errorf("the roots of %x: %x, of its conjugate: %x", z, got, turned)
			}
		}
	}
}

// A spot is a complex number told exactly, its parts counted in squares of the unit 2^-fine / finer; so its root's parts are counted in that unit.
type spot struct{ x, y *big.Int }

const fine = 1300

// squares are so many parts of 2^-1074 / finer as squares of the unit.
func squares(n *big.Int) *big.Int {
	n = multiplied(n, big.NewInt(finer))
	return n.Lsh(n, 2*fine-1074)
}

// units are a float's.
func units(f float64) *big.Int {
	n := multiplied(whole(f), big.NewInt(finer))
	return n.Lsh(n, fine-place)
}

// towards is the number so far from the middle of a ball in a direction as its rim is.
func towards(b api.Ball, d [2]int64) spot {
	part := func(mid float64, way int64) *big.Int {
		n := added(multiplied(whole(mid), big.NewInt(finer)), multiplied(whole(b.Rad), big.NewInt(way)))
		return squares(n.Rsh(n, 1)) // whole counts halves: each is even
	}
	return spot{part(real(b.Mid), d[0]), part(imag(b.Mid), d[1])}
}

// spots are numbers of a ball: the middle, and such on its rim, of the plane some.
func spots(b api.Ball) []spot {
	b.Rad = min(b.Rad, 0x1p1000) // of the plane
	out := []spot{towards(b, [2]int64{0, 0})}
	for _, d := range directions() {
		out = append(out, towards(b, d))
	}
	return out
}

// A found is where a root lies: the magnitudes of its parts are not below these, and below one more; or just these, if whole is true.
type found struct {
	u, v  *big.Int
	whole bool
}

func (s spot) root() found {
	exact := true
	sqrt := func(n *big.Int) *big.Int {
		m := new(big.Int).Sqrt(n)
		exact = exact && square(m).Cmp(n) == 0
		return m
	}
	abs := sqrt(added(square(s.x), square(s.y)))
	part := func(twice *big.Int) *big.Int {
		half, rest := new(big.Int).DivMod(twice, big.NewInt(2), new(big.Int))
		exact = exact && rest.Sign() == 0
		return sqrt(half)
	}
	u, v := part(added(abs, s.x)), part(taken(abs, s.x))
	return found{u, v, exact}
}

// mayBeIn tells whether the root with these signs of its parts is not surely outside of a ball.
func (f found) mayBeIn(b api.Ball, signU, signV int64) bool {
	if b == plane {
		return true
	}
	apart := func(mid float64, part *big.Int, sign int64) *big.Int {
		n := taken(units(mid), multiplied(part, big.NewInt(sign)))
		n.Abs(n)
		if !f.whole && n.Sign() > 0 {
			n.Sub(n, big.NewInt(1))
		}
		return square(n)
	}
	return added(apart(real(b.Mid), f.u, signU), apart(imag(b.Mid), f.v, signV)).Cmp(square(units(b.Rad))) <= 0
}

// checkHeld looks for the principal root of a number of b, and where both sides are told for both.
func checkHeld(t *testing.T, b, got api.Ball, side int, s spot) {
	t.Helper()
	f, sign := s.root(), int64(1)
	if s.y.Sign() < 0 || s.y.Sign() == 0 && math.Signbit(imag(b.Mid)) {
		sign = -1
	}
	if !f.mayBeIn(got, 1, sign) || side == api.SideBoth && !f.mayBeIn(got, -1, -sign) {
		t.Errorf("Sqrt(%x) = %x, %d: not all lies in it", b, got, side)
	}
}

// TestRO4P3Roots: the principal root of each number of a ball lies in Sqrt's; both do where both sides are told; and where no side is, none of them is on the cut.
func TestRO4P3Roots(t *testing.T) {
	r := numbers{187}
	sides := map[int]int{}
	for range 400 {
		b := r.ball()
		got, side, err := root.Sqrt(b)
		if err != api.OK {
			t.Errorf("Sqrt(%x): %v", b, err)
		}
		sides[side]++
		all := spots(b)
		if b.Rad == 0 {
			all = all[:1]
		}
		for _, s := range all {
			checkHeld(t, b, got, side, s)
			if s.y.Sign() == 0 && s.x.Sign() < 0 && side == api.SideNone {
				t.Errorf("Sqrt(%x) = %x, %d: on the cut", b, got, side)
			}
		}
	}
	if sides[api.SideNone] < 100 || sides[api.SideBoth] < 100 || sides[api.SideAbove] == 0 || sides[api.SideBelow] == 0 {
		t.Error(sides)
	}
}

// TestSpots: roots that are known, and whether they lie in a ball.
func TestSpots(t *testing.T) {
	for _, c := range []struct {
		b, in api.Ball
		want  bool
	}{
		{dot(3, 4), dot(2, 1), true}, {dot(3, 4), of(2, afterOne, 0x1p-52), true}, {dot(3, 4), dot(2, afterOne), false}, {dot(-4, 0), dot(0, 2), true}, {dot(-4, 0), dot(least, 2), false}, {dot(2, 0), of(0x1.6a09e667f3bcdp0, 0, 0x1p-53), true}, {dot(2, 0), of(0x1.6a09e667f3bcdp0, 0, 0x1p-54), false}, {dot(least, 0), dot(0x1p-537, 0), true}, {dot(greatest, 0), dot(0x1p512, 0), false}, {dot(5, 5), plane, true},
		{of(25, 0, 9), of(5, 0, 1), true}, {of(25, 0, 9), of(5, 0, beforeOne), false},
	} {
		all := spots(c.b)
		if c.b.Rad == 0 {
			all = all[:1]
		}
		got := true
		for _, s := range all {
			got = got && s.root().mayBeIn(c.in, 1, 1)
		}
		if got != c.want {
			t.Errorf("the roots of %v in %v: %v", c.b, c.in, got)
		}
	}
}

// TestRO4P4Sides: both sides of a point on the cut are told by its nought alone; a ball that meets it, or hardly comes to it, has both.
func TestRO4P4Sides(t *testing.T) {
	for _, x := range []float64{-least, -0x1p-1022, -0.1, -1, -2, -0x1p512, -greatest} {
		above, sideAbove, _ := root.Sqrt(dot(x, 0))
		below, sideBelow, _ := root.Sqrt(dot(x, minusZero))
		if sideAbove != api.SideAbove || sideBelow != api.SideBelow || !alike(below, conjugateBall(above)) || imag(above.Mid) <= 0 {
			t.Errorf("%x: %x, %d and %x, %d", x, above, sideAbove, below, sideBelow)
		}
		for _, y := range []float64{least, 0x1p-60, 1, greatest} {
			for _, sign := range []float64{1, -1} {
				_, touched, _ := root.Sqrt(of(x, sign*y, y))
				_, beside, _ := root.Sqrt(of(x, sign*y, math.Nextafter(y, 0)))
				_, point, _ := root.Sqrt(dot(x, sign*y))
				if touched != api.SideBoth || beside != api.SideNone || point != api.SideNone {
					t.Errorf("%x, %x: %d, %d, %d", x, sign*y, touched, beside, point)
				}
			}
		}
	}
}

// quadratic is one told by its zeros, and balls that hold its coefficients.
func (r *numbers) quadratic() (p, q complex128, a, b, c api.Ball) {
	small := func() complex128 { return complex(float64(r.below(33)-16), float64(r.below(33)-16)) }
	around := func(z complex128) api.Ball {
		rad := 5 * float64(r.below(3)*r.below(200)) / 16
		way := [][2]float64{{0, 0}, {1, 0}, {0, -1}, {0.6, 0.8}, {-0.8, 0.6}, {-0.6, -0.8}}[r.below(6)]
		part := func(f, way float64) float64 { return f + math.Round(rad*way*16)/16 } // whole sixteenths, so exact
		return of(part(real(z), way[0]), part(imag(z), way[1]), rad)
	}
	p, q = small(), small()
	lead := complex(float64(1+r.below(9)), float64(r.below(9)-4))
	if r.below(3) == 0 { // a real one whose zeros are conjugates, so that the discriminant is on the cut
		lead, q = complex(real(lead), 0), conjugate(p)
	}
	return p, q, api.Ball{Mid: lead}, around(-lead * (p + q)), around(lead * p * q)
}

// TestRO4Zeros: the zeros of a quadratic whose coefficients lie in the balls lie in what comes out, one in each.
func TestRO4Zeros(t *testing.T) {
	r := numbers{188}
	discs := 0
	for range 3000 {
		p, q, a, b, c := r.quadratic()
		if r.below(2) == 0 { // the first one may be another one of a ball, too
			a = of(real(a.Mid)+0.25, imag(a.Mid), 0.25)
		}
		one, other, err := root.Quadratic(a, b, c)
		if !(ball.Has(one, p) && ball.Has(other, q) || ball.Has(one, q) && ball.Has(other, p)) || err != api.OK {
			t.Errorf("Quadratic(%v, %v, %v) = %v, %v, %v: the zeros are %v and %v", a, b, c, one, other, err, p, q)
		}
		if one.Rad > 0 && one.Rad < 1 {
			discs++
		}
	}
	if discs < 100 {
		t.Error(discs)
	}
}
