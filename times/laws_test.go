package times_test

import (
	"math"
	"math/big"
	"slices"
	"testing"

	"cusp/api"
	"cusp/ball"
	"cusp/times"
)

// A spot is a complex number told exactly: its parts as whole numbers of one unit to the power of fine, the unit being 2^-1074 and one finer part.
type spot struct {
	x, y *big.Int
	fine int
}

// finer is 5 * 13 * 17, so that some numbers on a ball's rim are told exactly.
const finer = 1105

// units are so many units of the power fine.
func units(n *big.Int, by int64, fine int) *big.Int {
	one := new(big.Int).Lsh(big.NewInt(finer), 1074)
	n = new(big.Int).Mul(n, big.NewInt(by))
	return n.Mul(n, one.Exp(one, big.NewInt(int64(fine)), nil))
}

// counted are the units of a float.
func counted(f float64) *big.Int { return new(big.Int).Rsh(whole(f), place-1074) }

// finest has the parts in units of a greater power.
func (s spot) finest(fine int) spot {
	return spot{units(s.x, 1, fine-s.fine), units(s.y, 1, fine-s.fine), fine}
}

func (s spot) plus(p spot) spot {
	fine := max(s.fine, p.fine)
	s, p = s.finest(fine), p.finest(fine)
	return spot{added(s.x, p.x), added(s.y, p.y), fine}
}

func (s spot) times(p spot) spot {
	m := func(a, b *big.Int) *big.Int { return new(big.Int).Mul(a, b) }
	return spot{taken(m(s.x, p.x), m(s.y, p.y)), added(m(s.x, p.y), m(s.y, p.x)), s.fine + p.fine}
}

func (s spot) conjugate() spot { return spot{s.x, new(big.Int).Neg(s.y), s.fine} }

// power is so many spots, multiplied.
func (s spot) power(n int) spot {
	out := spot{big.NewInt(1), new(big.Int), 0}
	for range n {
		out = out.times(s)
	}
	return out
}

// isIn tells whether a spot lies in a ball.
func (s spot) isIn(b api.Ball) bool {
	if b == plane {
		return true
	}
	s = s.finest(s.fine + 1) // not less fine than a float
	at := func(f float64) *big.Int { return units(counted(f), finer, s.fine-1) }
	x, y := taken(s.x, at(real(b.Mid))), taken(s.y, at(imag(b.Mid)))
	return added(square(x), square(y)).Cmp(square(at(b.Rad))) <= 0
}

// directions lead to the rim: each pair of parts is finer long.
func directions() [][2]int64 {
	var out [][2]int64
	for _, d := range [][3]int64{{1, 0, 1}, {0, 1, 1}, {3, 4, 5}, {4, 3, 5}, {5, 12, 13}, {12, 5, 13}, {8, 15, 17}, {15, 8, 17}} {
		x, y := d[0]*(finer/d[2]), d[1]*(finer/d[2])
		out = append(out, [2]int64{x, y}, [2]int64{-x, y}, [2]int64{x, -y}, [2]int64{-x, -y})
	}
	return out
}

// towards is the number on a ball's rim in a direction; of the plane some number.
func towards(b api.Ball, d [2]int64) spot {
	part := func(f float64, way int64) *big.Int {
		rim := new(big.Int).Mul(counted(min(b.Rad, greatest)), big.NewInt(way))
		return rim.Add(rim, units(counted(f), finer, 0))
	}
	return spot{part(real(b.Mid), d[0]), part(imag(b.Mid), d[1]), 1}
}

// farOut is the direction, of those there are, that leads most nearly to where a value does, or by some quarters from there.
func farOut(z complex128, quarters int) [2]int64 {
	all := directions()
	best := slices.MaxFunc(all, func(a, b [2]int64) int {
		along := func(d [2]int64) float64 {
			size := max(math.Abs(real(z)), math.Abs(imag(z)), least)
			return real(z)/size*float64(d[0]) + imag(z)/size*float64(d[1])
		}
		return int(along(a) - along(b))
	})
	for range quarters {
		best = [2]int64{-best[1], best[0]}
	}
	return best
}

// spots are numbers of a ball: on its rim where it is farthest from 0 and nearest to it, to its sides, and in some direction.
func (r *numbers) spots(b api.Ball) []spot {
	all := directions()
	out := []spot{towards(api.Ball{Mid: b.Mid}, all[0]), towards(b, all[r.below(len(all))])}
	for quarters := range 4 {
		out = append(out, towards(b, farOut(b.Mid, quarters)))
	}
	return out
}

func checkIn(t *testing.T, s spot, b api.Ball, err api.Errno, what string, of ...any) {
	t.Helper()
	if !s.isIn(b) || err != api.OK {
		t.Errorf("%s(%.200v) = %v, %v: not all lies in it", what, of, b, err)
	}
}

// TestTI5P3Products: what numbers of balls come to, multiplied exactly, lies in the answer.
func TestTI5P3Products(t *testing.T) {
	r := numbers{168}
	for i := range 300 {
		a, b := r.pair()
		if i%2 == 0 {
			a, b = r.modest(), r.modest()
		}
		product, err := times.Mul(a, b)
		sqr, sqrErr := times.Sqr(a)
		norm, normErr := times.Norm(a)
		for _, v := range r.spots(a) {
			for _, w := range r.spots(b) {
				checkIn(t, v.times(w), product, err, "Mul", a, b)
			}
			checkIn(t, v.times(v), sqr, sqrErr, "Sqr", a)
			checkIn(t, v.times(v.conjugate()), norm, normErr, "Norm", a)
		}
	}
}

// TestTI5P3Many: the same of what is made of several products.
func TestTI5P3Many(t *testing.T) {
	r := numbers{169}
	for range 60 {
		l, m := r.modestList(4), r.modestList(4)
		prod, err := times.Prod(l)
		dot, dotErr := times.Dot(l, m)
		for range 8 {
			all, sum := spot{big.NewInt(1), new(big.Int), 0}, spot{new(big.Int), new(big.Int), 0}
			for i := range l {
				v, w := r.spots(l[i]), r.spots(m[i])
				one := v[r.below(len(v))]
				all, sum = all.times(one), sum.plus(one.times(w[r.below(len(w))]))
			}
			checkIn(t, all, prod, err, "Prod", l)
			checkIn(t, sum, dot, dotErr, "Dot", l, m)
		}
		for n := range 9 {
			power, err := times.Pow(l[0], n)
			for _, v := range r.spots(l[0]) {
				checkIn(t, v.power(n), power, err, "Pow", l[0], n)
			}
		}
	}
}

// TestTI7Coefficients: those of the product of any two polynomials lie in Row's balls; exchanged, the rows make balls that meet these.
func TestTI7Coefficients(t *testing.T) {
	r := numbers{170}
	for range 60 {
		a, b := r.modestList(r.below(5)), r.modestList(r.below(5))
		got, err := times.Row(a, b, 9)
		turned, turnedErr := times.Row(b, a, 9)
		for range 6 {
			sum := slices.Repeat([]spot{{new(big.Int), new(big.Int), 0}}, 9)
			v, w := r.some(a), r.some(b)
			for i := range a {
				for j := range b {
					sum[i+j] = sum[i+j].plus(v[i].times(w[j]))
				}
			}
			for k := range sum {
				checkIn(t, sum[k], got[k], err, "Row", k, a, b)
				checkIn(t, sum[k], turned[k], turnedErr, "Row", k, b, a)
				if !ball.Meets(got[k], turned[k]) {
					t.Errorf("Row of %v and %v: %v, exchanged %v", a, b, got[k], turned[k])
				}
			}
		}
	}
}

// some are numbers of balls, one of each.
func (r *numbers) some(l []api.Ball) []spot {
	var out []spot
	for _, b := range l {
		all := r.spots(b)
		out = append(out, all[r.below(len(all))])
	}
	return out
}

// TestTI5Order: a product does not hang on the order, bit by bit; a point times a point with an exact product is a point.
func TestTI5Order(t *testing.T) {
	r := numbers{171}
	all := corners()
	for range 1500 {
		a, b := r.pair()
		if r.below(2) == 0 {
			a, b = all[r.below(len(all))], all[r.below(len(all))]
		}
		want, _ := times.Mul(a, b)
		got, err := times.Mul(b, a)
		check(t, got, err, want, "Mul", b, a)
		a, b = r.modest(), r.modest()
		a.Rad, b.Rad = 0, 0
		if got, err := times.Mul(a, b); got.Rad != 0 || err != api.OK {
			t.Errorf("Mul of the points %v, %v = %v, %v", a, b, got, err)
		}
	}
}

// TestTI5Square: a square lies within the product of the ball and itself, grown by its rounding.
func TestTI5Square(t *testing.T) {
	r := numbers{172}
	all := corners()
	for range 500 {
		all = append(all, r.ball(), r.modest())
	}
	for _, b := range all {
		product, _ := times.Mul(b, b)
		grown, _ := ball.Grow(product, product.Rad*0x1p-52)
		if sqr, err := times.Sqr(b); !ball.Within(sqr, grown) || err != api.OK {
			t.Errorf("Sqr of %v = %v, %v; Mul makes %v", b, sqr, err, product)
		}
	}
}

// conjugate is b on the other side of the real axis; the plane's middle is 0+0i.
func conjugate(b api.Ball) api.Ball {
	if b == plane {
		return plane
	}
	return of(real(b.Mid), -imag(b.Mid), b.Rad)
}

func conjugates(l []api.Ball) []api.Ball {
	var out []api.Ball
	for _, b := range l {
		out = append(out, conjugate(b))
	}
	return out
}

// answers are those of all calls, Row's at the end.
type answers struct {
	balls []api.Ball
	errs  []api.Errno
}

// asked makes all calls; l and m are two lists.
func asked(a, b api.Ball, n int, l, m []api.Ball) answers {
	var out answers
	note := func(b api.Ball, err api.Errno) {
		out.balls, out.errs = append(out.balls, b), append(out.errs, err)
	}
	note(times.Mul(a, b))
	note(times.Sqr(a))
	note(times.Pow(a, n))
	note(times.Prod(l))
	note(times.Norm(a))
	note(times.Dot(l, m))
	row, err := times.Row(l, m, n)
	out.errs = append(out.errs, err)
	out.balls = append(out.balls, row...)
	return out
}

// TestTI5P5Conjugate: of the conjugates comes the conjugate, but for noughts, with the same radius.
func TestTI5P5Conjugate(t *testing.T) {
	r := numbers{173}
	for range 400 {
		a, b := r.pair()
		l, m := r.modestList(4), r.modestList(4)
		l[1], m[2] = a, b
		n := r.below(9)
		got, turned := asked(a, b, n, l, m), asked(conjugate(a), conjugate(b), n, conjugates(l), conjugates(m))
		for i, want := range conjugates(got.balls) {
			if !equal(turned.balls[i], want) {
				t.Errorf("answer %d of %v, %v, %d, %v, %v = %v, of the conjugates %v", i, a, b, n, l, m, got.balls[i], turned.balls[i])
			}
		}
	}
}

// inner is a ball within another one: a part of it, or some number of it.
func (r *numbers) inner(b api.Ball) api.Ball {
	if b == plane {
		return r.ball()
	}
	out := api.Ball{Mid: b.Mid + complex(b.Rad*float64(r.below(100)-50)/128, b.Rad*float64(r.below(100)-50)/128), Rad: b.Rad * float64(r.below(100)) / 256}
	if !ball.Within(out, b) {
		return api.Ball{Mid: b.Mid}
	}
	return out
}

func (r *numbers) inners(l []api.Ball) []api.Ball {
	var out []api.Ball
	for _, b := range l {
		out = append(out, r.inner(b))
	}
	return out
}

// TestTI5P7Monotone: what comes of balls, and of balls within them, meets, and the hull of both holds both.
func TestTI5P7Monotone(t *testing.T) {
	r := numbers{174}
	narrower := 0
	for range 400 {
		a, b := r.pair()
		l, m := r.modestList(4), r.modestList(4)
		l[1], m[2] = a, b
		c, d, n := r.inner(a), r.inner(b), r.below(9)
		if c.Rad > 0 && c.Rad < a.Rad {
			narrower++
		}
		outer, got := asked(a, b, n, l, m), asked(c, d, n, r.inners(l), r.inners(m))
		for i, o := range outer.balls {
			g := got.balls[i]
			hull, err := ball.Hull(o, g)
			if !ball.Meets(o, g) || !ball.Within(o, hull) || !ball.Within(g, hull) || err != api.OK {
				t.Errorf("answer %d of %v, %v, %d = %v, of the inner %v, %v = %v", i, a, b, n, o, c, d, g)
			}
		}
	}
	if narrower < 100 {
		t.Error(narrower)
	}
}

// TestP1Total: every call at all floats ends; what comes out may be, or is nothing beside an error.
func TestP1Total(t *testing.T) {
	floats := anyFloats()
	numbers := []int{0, 1, 2, 5, 256, 257, 1024, 1025, -1, math.MaxInt, math.MinInt}
	var all []api.Ball
	for _, x := range floats {
		for _, rad := range floats {
			all = append(all, of(x, -x, rad), of(0, x, rad), of(x, 1, rad))
		}
	}
	for i, a := range all {
		at := i * 31 % (len(all) - 4)
		b, n, l, m := all[at], numbers[i%len(numbers)], all[at:at+i%5], all[at+1:at+3]
		got := asked(a, b, n, l, m)
		for k, err := range got.errs[:6] {
			if err == api.OK && !ball.Valid(got.balls[k]) || err != api.OK && !alike(got.balls[k], api.Ball{}) {
				t.Errorf("call %d of %v, %v, %v, %v, %v = %v, %v", k, a, b, n, l, m, got.balls[k], err)
			}
		}
		row, err := got.balls[6:], got.errs[6]
		if err == api.OK && (len(row) != n || slices.ContainsFunc(row, func(b api.Ball) bool { return !ball.Valid(b) })) || err != api.OK && len(row) > 0 {
			t.Errorf("Row of %v, %v, %d = %v, %v", l, m, n, row, err)
		}
	}
}

// TestP2Again: the same arguments make the same answers, whatever was asked between.
func TestP2Again(t *testing.T) {
	ask := func(r *numbers) answers {
		a, b := r.pair()
		return asked(a, b, r.below(12), r.modestList(3), r.modestList(3))
	}
	r := numbers{175}
	var first []answers
	for range 150 {
		first = append(first, ask(&r))
	}
	r = numbers{175}
	for i := range first {
		again := ask(&r)
		for k, b := range again.balls {
			check(t, b, api.OK, first[i].balls[k], "asked again", i, k)
		}
	}
}

// TestP2Kept: lists that are handed in stay as they are, behind their ends too, and an answer shares no memory with them, nor with another one.
func TestP2Kept(t *testing.T) {
	r := numbers{176}
	for range 100 {
		l, m := r.modestList(7), r.modestList(7)
		wasL, wasM := slices.Clone(l), slices.Clone(m)
		row, _ := times.Row(l[1:5], m[1:4], 8)
		other, _ := times.Row(l[1:5], m[1:4], 8)
		want := slices.Clone(row)
		clear(other[:cap(other)])
		times.Prod(l[1:5])
		times.Dot(l[1:5], m[2:6])
		if !slices.Equal(row, want) || !slices.Equal(l, wasL) || !slices.Equal(m, wasM) {
			t.Errorf("%v and %v were changed to %v and %v, or Row's answer to %v", wasL, wasM, l, m, row)
		}
		clear(row[:cap(row)])
		if !slices.Equal(l, wasL) || !slices.Equal(m, wasM) {
			t.Errorf("an answer shares memory with %v or %v", l, m)
		}
	}
}
