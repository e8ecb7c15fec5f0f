package over_test

import (
	"math"
	"math/big"
	"slices"
	"testing"

	"cusp/api"
	"cusp/ball"
	"cusp/over"
)

// A spot is a complex number told exactly: its parts as whole numbers of one unit to the power of fine, the unit being 2^-1074 and one finer part.
type spot struct {
	x, y *big.Int
	fine int
}

// finer is 5 * 13 * 17, so that some numbers on a ball's rim are told exactly.
const finer = 1105

// units are so many units of the power fine.
func units(n *big.Int, fine int) *big.Int {
	one := new(big.Int).Lsh(big.NewInt(finer), 1074)
	return one.Exp(one, big.NewInt(int64(fine)), nil).Mul(one, n)
}

// counted are a float's parts of 2^-1074.
func counted(f float64) *big.Int {
	frac, exp := math.Frexp(f)
	n := big.NewInt(int64(frac * (1 << 53)))
	n.Lsh(n, uint(exp+1074))
	return n.Rsh(n, 53) // what is cut off are noughts
}

func spotOf(z complex128) spot {
	part := func(f float64) *big.Int { return new(big.Int).Mul(counted(f), big.NewInt(finer)) }
	return spot{part(real(z)), part(imag(z)), 1}
}

// finest has the parts in units of a greater power.
func (s spot) finest(fine int) spot {
	return spot{units(s.x, fine-s.fine), units(s.y, fine-s.fine), fine}
}

func (s spot) plus(p spot) spot {
	fine := max(s.fine, p.fine)
	s, p = s.finest(fine), p.finest(fine)
	return spot{new(big.Int).Add(s.x, p.x), new(big.Int).Add(s.y, p.y), fine}
}

func (s spot) negated() spot { return spot{new(big.Int).Neg(s.x), new(big.Int).Neg(s.y), s.fine} }

func (s spot) times(p spot) spot {
	m := func(a, b *big.Int) *big.Int { return new(big.Int).Mul(a, b) }
	x, y := m(s.x, p.x), m(s.x, p.y)
	return spot{x.Sub(x, m(s.y, p.y)), y.Add(y, m(s.y, p.x)), s.fine + p.fine}
}

// norm is the square of the magnitude, in units of twice the power.
func (s spot) norm() *big.Int {
	x, y := new(big.Int).Mul(s.x, s.x), new(big.Int).Mul(s.y, s.y)
	return x.Add(x, y)
}

func (s spot) isZero() bool { return s.norm().Sign() == 0 }

// isIn tells whether s / by, that is not nought, lies in a ball: whether s is at most by's magnitude times the radius away from by times the middle.
func (s spot) isIn(b api.Ball, by spot) bool {
	if b == plane {
		return true
	}
	away := by.times(spotOf(b.Mid)).negated().plus(s)
	far := by.times(spotOf(complex(b.Rad, 0))).finest(away.fine)
	return away.norm().Cmp(far.norm()) <= 0
}

// directions lead to the rim: each pair of parts is finer long.
func directions() [][2]int64 {
	var out [][2]int64
	for _, d := range [][3]int64{{1, 0, 1}, {0, 1, 1}, {3, 4, 5}, {4, 3, 5}, {5, 12, 13}, {12, 5, 13}, {8, 15, 17}, {15, 8, 17}} {
		x, y := d[0]*(finer/d[2]), d[1]*(finer/d[2])
		out = append(out, [2]int64{x, y}, [2]int64{-x, y}, [2]int64{x, -y}, [2]int64{-x, -y})
	}
	return out
}

// towards is the number on a ball's rim in a direction; of the plane some number.
func towards(b api.Ball, d [2]int64) spot {
	rad := counted(min(b.Rad, greatest))
	part := func(way int64) *big.Int { return new(big.Int).Mul(rad, big.NewInt(way)) }
	return spotOf(b.Mid).plus(spot{part(d[0]), part(d[1]), 1})
}

// farOut is the direction, of those there are, that leads most nearly to where a value does.
func farOut(z complex128) [2]int64 {
	return slices.MaxFunc(directions(), func(a, b [2]int64) int {
		along := func(d [2]int64) float64 {
			far := max(math.Abs(real(z)), math.Abs(imag(z)), least)
			return real(z)/far*float64(d[0]) + imag(z)/far*float64(d[1])
		}
		return int(along(a) - along(b))
	})
}

// spots are numbers of a ball: on its rim where it is farthest from 0 and nearest to it, to its sides, and in some direction.
func (r *numbers) spots(b api.Ball) []spot {
	all := directions()
	out := []spot{spotOf(b.Mid), towards(b, all[r.below(len(all))])}
	d := farOut(b.Mid)
	for range 4 {
		out = append(out, towards(b, d))
		d = [2]int64{-d[1], d[0]}
	}
	return out
}

func checkIn(t *testing.T, s, by spot, b api.Ball, err api.Errno, what string, of ...any) {
	t.Helper()
	if err != api.OK || !by.isZero() && !s.isIn(b, by) {
		t.Errorf("%s(%.200v) = %v, %v: not all lies in it", what, of, b, err)
	}
}

// touching are balls whose rims, and numbers on it in a known direction, come as near to 0 as floats allow.
func (r *numbers) touching() api.Ball {
	d := directions()[r.below(32)]
	by := math.Ldexp(1, r.below(40)-20)
	x, y, rad := float64(d[0])*by, float64(d[1])*by, math.Float64bits(finer*by)
	return of(x, y, math.Float64frombits(rad-1-uint64(r.below(3))))
}

// TestOV4P3Inverse: the inverse of every number of a ball lies in Inv.
func TestOV4P3Inverse(t *testing.T) {
	r := numbers{175}
	one := spotOf(1)
	discs := 0
	for i := range 600 {
		b := [](func() api.Ball){r.ball, r.modest, r.touching}[i%3]()
		inv, err := over.Inv(b)
		if inv != plane {
			discs++
		}
		for _, s := range r.spots(b) {
			checkIn(t, one, s, inv, err, "Inv", b)
		}
	}
	if discs < 300 {
		t.Error(discs)
	}
}

// TestOV4P3Quotients: so do the quotients in Div, and in Mobius what it comes to.
func TestOV4P3Quotients(t *testing.T) {
	r := numbers{176}
	discs := 0
	for i := range 300 {
		a, b := r.ball(), r.ball()
		if i%2 == 0 {
			a, b = r.modest(), r.touching()
		}
		quo, err := over.Div(a, b)
		m := r.four()
		mobius, mobiusErr := over.Mobius(m[0], m[1], m[2], m[3], a)
		if quo != plane && mobius != plane {
			discs++
		}
		for _, v := range r.spots(a) {
			for _, w := range r.spots(b) {
				checkIn(t, v, w, quo, err, "Div", a, b)
			}
			above, below := v.times(spotOf(m[0])).plus(spotOf(m[1])), v.times(spotOf(m[2])).plus(spotOf(m[3]))
			checkIn(t, above, below, mobius, mobiusErr, "Mobius", m, a)
		}
	}
	if discs < 50 {
		t.Error(discs)
	}
}

// TestSpots: whether a quotient lies in a ball, where it is known.
func TestSpots(t *testing.T) {
	for _, c := range []struct {
		s, by complex128
		b     api.Ball
		want  bool
	}{
		{1, 2, dot(0.5, 0), true}, {1, 2, dot(afterOne/2, 0), false}, {1, 3, of(0x1.5555555555555p-2, 0, 0x1.5555555555556p-56), true}, {1, 3, of(0x1.5555555555555p-2, 0, 0x1.5555555555555p-56), false}, {1 + 2i, 1 + 1i, dot(1.5, 0.5), true}, {3 + 4i, 1, of(0, 0, 5), true}, {3 + 4i, 1, of(0, 0, 4.999999999999999), false}, {complex(0, least), 1, dot(0, least), true}, {complex(greatest, 0), complex(0, 2), dot(0, -greatest/2), true}, {1, 1i, plane, true},
	} {
		if got := spotOf(c.s).isIn(c.b, spotOf(c.by)); got != c.want {
			t.Errorf("%v / %v in %v: %v", c.s, c.by, c.b, got)
		}
	}
}

// conjugate is b on the other side of the real axis; the plane's middle is 0+0i.
func conjugate(b api.Ball) api.Ball {
	if b == plane {
		return plane
	}
	return of(real(b.Mid), -imag(b.Mid), b.Rad)
}

// answers are those of all calls.
type answers struct {
	balls [3]api.Ball
	zero  bool
	errs  [4]api.Errno
}

func asked(a, b api.Ball, m [4]complex128) answers {
	var out answers
	out.balls[0], out.errs[0] = over.Inv(a)
	out.balls[1], out.errs[1] = over.Div(a, b)
	out.balls[2], out.errs[2] = over.Mobius(m[0], m[1], m[2], m[3], a)
	out.zero, out.errs[3] = over.Zero(a)
	return out
}

// TestP5Conjugate: of the conjugates comes the conjugate, equal and with the same radius.
func TestP5Conjugate(t *testing.T) {
	r := numbers{177}
	for range 1500 {
		a, b, m := r.ball(), r.ball(), r.four()
		if r.below(2) == 0 {
			a, b = r.modest(), r.touching()
		}
		other := m
		for i, z := range m {
			other[i] = complex(real(z), -imag(z))
		}
		got, turned := asked(a, b, m), asked(conjugate(a), conjugate(b), other)
		if got.zero != turned.zero {
			t.Errorf("Zero of %v: %v, of the conjugate %v", a, got.zero, turned.zero)
		}
		for i := range got.balls {
			if !equal(conjugate(got.balls[i]), turned.balls[i]) || turned.errs[i] != api.OK {
				t.Errorf("call %d of %v, %v, %v = %v, of the conjugates %v", i, a, b, m, got.balls[i], turned.balls[i])
			}
		}
	}
}

// inner is a ball within another one: a part of it, or some number of it.
func (r *numbers) inner(b api.Ball) api.Ball {
	if b == plane {
		return r.ball()
	}
	out := api.Ball{Mid: b.Mid + complex(b.Rad*float64(r.below(100)-50)/128, b.Rad*float64(r.below(100)-50)/128), Rad: b.Rad * float64(r.below(100)) / 256}
	if !ball.Within(out, b) {
		return api.Ball{Mid: b.Mid}
	}
	return out
}

// TestP7Monotone: what comes of balls, and of balls within them, meets, and the hull of both holds both; 0 in the inner one is in the outer one.
func TestP7Monotone(t *testing.T) {
	r := numbers{178}
	narrower := 0
	for i := range 1500 {
		a, b, m := r.ball(), r.ball(), r.four()
		if i%2 == 0 {
			a, b = r.modest(), r.touching()
		}
		c, d := r.inner(a), r.inner(b)
		if c.Rad > 0 && c.Rad < a.Rad {
			narrower++
		}
		outer, got := asked(a, b, m), asked(c, d, m)
		if got.zero && !outer.zero {
			t.Errorf("0 lies in %v, not in %v", c, a)
		}
		for i, o := range outer.balls {
			g := got.balls[i]
			hull, err := ball.Hull(o, g)
			if !ball.Meets(o, g) || !ball.Within(o, hull) || !ball.Within(g, hull) || err != api.OK || got.errs[i] != api.OK {
				t.Errorf("call %d of %v, %v, %v = %v, of the inner %v, %v = %v", i, a, b, m, o, c, d, g)
			}
		}
	}
	if narrower < 400 {
		t.Error(narrower)
	}
}

// TestP1Total: every call at all floats ends; what comes out may be, or is nothing beside an error.
func TestP1Total(t *testing.T) {
	floats := anyFloats()
	var all []api.Ball
	var values []complex128
	for _, x := range floats {
		for _, rad := range floats {
			all = append(all, of(x, -x, rad), of(0, x, rad), of(x, 1, rad))
			values = append(values, complex(x, rad))
		}
	}
	errs := map[api.Errno]int{}
	for i, a := range all {
		b := all[(i*31+7)%len(all)]
		m := [4]complex128{1, 2, 3, 4}
		for k := range m[:i%5] {
			m[k] = values[(i*17+k*29)%len(values)]
		}
		got := asked(a, b, m)
		for k, err := range got.errs {
			errs[err]++
			bad := err != api.OK && err != api.ErrBall && (k != 2 || err != api.ErrNaN && err != api.ErrInf)
			if k < 3 && (err == api.OK && !ball.Valid(got.balls[k]) || err != api.OK && !alike(got.balls[k], api.Ball{})) || k == 3 && err != api.OK && got.zero || bad {
				t.Errorf("call %d of %v, %v, %v = %v, %v", k, a, b, m, got, err)
			}
		}
	}
	for _, err := range []api.Errno{api.OK, api.ErrBall, api.ErrNaN, api.ErrInf} {
		if errs[err] < 10 {
			t.Error(err, errs)
		}
	}
}

// TestP2Again: the same arguments make the same answers, whatever was asked between.
func TestP2Again(t *testing.T) {
	ask := func(r *numbers) answers { return asked(r.ball(), r.ball(), r.four()) }
	r := numbers{179}
	var first []answers
	for range 300 {
		first = append(first, ask(&r))
	}
	r = numbers{179}
	for i := range first {
		again := ask(&r)
		for k, b := range again.balls {
			check(t, b, again.errs[k], first[i].balls[k], "asked again", i, k)
		}
		if again.zero != first[i].zero {
			t.Errorf("Zero, asked again, %d: %v", i, again.zero)
		}
	}
}
