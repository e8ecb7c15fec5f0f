package plus_test

import (
	"math"
	"math/big"
	"testing"

	"cusp/api"
	"cusp/ball"
	"cusp/plus"
)

// A spot is a complex number told exactly: its parts as whole numbers of 2^-2148 and of one finer part.
type spot struct{ x, y *big.Int }

// finer is 5 * 13 * 17, so that some numbers on a ball's rim are told exactly.
const finer = 1105

func scaled(n *big.Int, by int64) *big.Int { return new(big.Int).Mul(n, big.NewInt(by)) }

func spotOf(z complex128) spot {
	return spot{scaled(whole(real(z)), finer), scaled(whole(imag(z)), finer)}
}

func (s spot) plus(p spot) spot { return spot{added(s.x, p.x), added(s.y, p.y)} }

func (s spot) turned() spot { return spot{new(big.Int).Neg(s.y), s.x} }

func (s spot) negated() spot { return s.turned().turned() }

func (s spot) conjugate() spot { return spot{s.x, new(big.Int).Neg(s.y)} }

// onAxis has one of a spot's parts as its real part.
func onAxis(x *big.Int) spot { return spot{x, new(big.Int)} }

// times is a spot by a float, in parts as fine as a product's.
func (s spot) times(f float64) spot {
	n := whole(f)
	return spot{new(big.Int).Mul(s.x, n), new(big.Int).Mul(s.y, n)}
}

// isIn tells whether a spot, in parts as fine as a product's, lies in a ball.
func (s spot) isIn(b api.Ball) bool {
	if b == plane {
		return true
	}
	at := func(f float64) *big.Int { return new(big.Int).Lsh(scaled(whole(f), finer), place) }
	x, y := taken(s.x, at(real(b.Mid))), taken(s.y, at(imag(b.Mid)))
	return added(square(x), square(y)).Cmp(square(at(b.Rad))) <= 0
}

// directions lead to the rim: each pair of parts is finer long.
func directions() [][2]int64 {
	var out [][2]int64
	for _, d := range [][3]int64{{1, 0, 1}, {0, 1, 1}, {3, 4, 5}, {4, 3, 5}, {5, 12, 13}, {12, 5, 13}, {8, 15, 17}, {15, 8, 17}} {
		x, y := d[0]*(finer/d[2]), d[1]*(finer/d[2])
		out = append(out, [2]int64{x, y}, [2]int64{-x, y}, [2]int64{x, -y}, [2]int64{-x, -y})
	}
	return out
}

// towards is the number on a ball's rim in a direction; of the plane some number.
func towards(b api.Ball, d [2]int64) spot {
	rad := whole(min(b.Rad, 1000))
	if b != plane {
		rad = whole(b.Rad)
	}
	return spotOf(b.Mid).plus(spot{scaled(rad, d[0]), scaled(rad, d[1])})
}

// spots are pairs of numbers of two balls: both in one direction, where their sum goes farthest, and any.
func (r *numbers) spots(a, b api.Ball) [][2]spot {
	out := [][2]spot{{spotOf(a.Mid), spotOf(b.Mid)}}
	all := directions()
	for _, d := range all {
		out = append(out, [2]spot{towards(a, d), towards(b, d)}, [2]spot{towards(a, d), towards(b, all[r.below(len(all))])})
	}
	return out
}

// exactly are what two numbers come to by the calls that asked makes, in its order, in parts as fine as a product's.
func exactly(v, w spot, s float64, n int) [11]spot {
	number, turned := spotOf(complex(s, 0)), v
	for range (n%4 + 4) % 4 {
		turned = turned.turned()
	}
	out := [11]spot{v.plus(w), v.plus(w.negated()), v.negated(), v.conjugate(), turned, v.plus(number), v.negated().plus(number), v, onAxis(v.x), onAxis(v.y), v.plus(w)}
	for i := range out {
		by := 1.0
		if i == 7 { // Scale's place
			by = s
		}
		out[i] = out[i].times(by)
	}
	return out
}

// TestPL4P3Holds: what numbers of balls come to, exactly, lies in the answer.
func TestPL4P3Holds(t *testing.T) {
	r := numbers{156}
	for range 200 {
		a, b := r.pair()
		s, n := r.beside(real(a.Mid)), r.below(9)-4
		got := asked(a, b, s, n)
		for _, p := range r.spots(a, b) {
			for i, at := range exactly(p[0], p[1], s, n) {
				if got.errs[i] != api.OK || !at.isIn(got.balls[i]) {
					t.Errorf("call %d of %v, %v, %v, %v = %v, %v: not all lies in it", i, a, b, s, n, got.balls[i], got.errs[i])
				}
			}
		}
	}
}

// equal tells whether two balls are, but for noughts.
func equal(a, b api.Ball) bool { return a.Mid == b.Mid && a.Rad == b.Rad }

// TestPL4Order: Add does not hang on the order, bit by bit; Sub turns with it, but for noughts.
func TestPL4Order(t *testing.T) {
	r := numbers{157}
	all := corners()
	for range 2000 {
		a, b := r.pair()
		if r.below(2) == 0 {
			a, b = all[r.below(len(all))], all[r.below(len(all))]
		}
		sum, _ := plus.Add(a, b)
		got, err := plus.Add(b, a)
		check(t, got, err, sum, "Add", b, a)
		less, _ := plus.Sub(a, b)
		more, err := plus.Sub(b, a)
		if !equal(less, negated(more)) || err != api.OK {
			t.Errorf("Sub(%v, %v) = %v, the other way %v", a, b, less, more)
		}
	}
}

// TestPL4P8Order: Sum does not hang on it either.
func TestPL4P8Order(t *testing.T) {
	r := numbers{158}
	for range 800 {
		l := r.list(2 + r.below(8))
		want, _ := plus.Sum(l)
		for range 4 {
			for i := range l {
				j := r.below(i + 1)
				l[i], l[j] = l[j], l[i]
			}
			got, err := plus.Sum(l)
			check(t, got, err, want, "Sum", l)
		}
	}
}

// TestPL4Turns: four quarters are none, two are Neg, and turns follow one another.
func TestPL4Turns(t *testing.T) {
	r := numbers{159}
	all := corners()
	for range 300 {
		all = append(all, r.ball())
	}
	turned := func(b api.Ball, n int) api.Ball {
		got, err := plus.Turn(b, n)
		if err != api.OK {
			t.Error(b, n, err)
		}
		return got
	}
	for _, b := range all {
		check(t, turned(turned(turned(turned(b, 1), 1), 1), 1), api.OK, b, "four turns of", b)
		neg, err := plus.Neg(b)
		check(t, turned(b, 2), err, neg, "two turns of", b)
		check(t, turned(turned(b, 1), -1), api.OK, b, "there and back of", b)
		for _, n := range manyTurns() {
			check(t, turned(turned(b, n), 1), api.OK, turned(b, n%4+1), "one turn more of", b, n)
		}
	}
}

// TestP5Conjugate: of the conjugates comes the conjugate, equal and with the same radius; of Im the value turned in sign.
func TestP5Conjugate(t *testing.T) {
	r := numbers{160}
	for range 1500 {
		a, b := r.pair()
		s, n := r.beside(real(a.Mid)), r.below(9)-4
		pairs := func(what string, f func(a, b api.Ball) (api.Ball, api.Errno)) {
			t.Helper()
			got, _ := f(a, b)
			turned, err := f(conjugate(a), conjugate(b))
			if !equal(conjugate(got), turned) || err != api.OK {
				t.Errorf("%s of %v, %v = %v, of the conjugates %v", what, a, b, got, turned)
			}
		}
		pairs("Add", plus.Add)
		pairs("Sub", plus.Sub)
		pairs("Neg", func(a, b api.Ball) (api.Ball, api.Errno) { return plus.Neg(a) })
		pairs("Conj", func(a, b api.Ball) (api.Ball, api.Errno) { return plus.Conj(a) })
		pairs("Real", func(a, b api.Ball) (api.Ball, api.Errno) { return plus.Real(a, s) })
		pairs("From", func(a, b api.Ball) (api.Ball, api.Errno) { return plus.From(s, a) })
		pairs("Scale", func(a, b api.Ball) (api.Ball, api.Errno) { return plus.Scale(a, s) })
		pairs("Re", func(a, b api.Ball) (api.Ball, api.Errno) { return plus.Re(a) })
		pairs("Sum", func(a, b api.Ball) (api.Ball, api.Errno) { return plus.Sum([]api.Ball{a, b, a}) })
		im, _ := plus.Im(a)
		turnedIm, _ := plus.Im(conjugate(a))
		left, _ := plus.Turn(a, n)
		right, _ := plus.Turn(conjugate(a), -n) // i itself turns to the other way
		if !equal(turnedIm, negated(im)) || !equal(right, conjugate(left)) {
			t.Errorf("Im or Turn of %v: %v, %v and %v, %v", a, im, turnedIm, left, right)
		}
	}
}

// inner is a ball within another one: a part of it, or some number of it.
func (r *numbers) inner(b api.Ball) api.Ball {
	if b == plane {
		return r.ball()
	}
	out := api.Ball{Mid: b.Mid + complex(b.Rad*float64(r.below(100)-50)/128, b.Rad*float64(r.below(100)-50)/128), Rad: b.Rad * float64(r.below(100)) / 256}
	if !ball.Within(out, b) {
		return api.Ball{Mid: b.Mid}
	}
	return out
}

// TestP7Monotone: what comes of a ball, and of one within it, meets.
func TestP7Monotone(t *testing.T) {
	r := numbers{161}
	narrower := 0
	for range 1500 {
		a, b := r.pair()
		c, d := r.inner(a), r.inner(b)
		s, n := r.beside(real(a.Mid)), r.below(9)-4
		if c.Rad > 0 && c.Rad < a.Rad {
			narrower++
		}
		meet := func(what string, f func(a, b api.Ball) (api.Ball, api.Errno)) {
			t.Helper()
			outer, _ := f(a, b)
			got, err := f(c, d)
			hull, hullErr := ball.Hull(outer, got)
			if err != api.OK || hullErr != api.OK || !ball.Meets(outer, got) || !ball.Within(got, hull) || !ball.Within(outer, hull) {
				t.Errorf("%s of %v, %v = %v, of the inner %v, %v = %v", what, a, b, outer, c, d, got)
			}
		}
		meet("Add", plus.Add)
		meet("Sub", plus.Sub)
		meet("Neg", func(a, b api.Ball) (api.Ball, api.Errno) { return plus.Neg(a) })
		meet("Conj", func(a, b api.Ball) (api.Ball, api.Errno) { return plus.Conj(a) })
		meet("Turn", func(a, b api.Ball) (api.Ball, api.Errno) { return plus.Turn(a, n) })
		meet("Real", func(a, b api.Ball) (api.Ball, api.Errno) { return plus.Real(a, s) })
		meet("From", func(a, b api.Ball) (api.Ball, api.Errno) { return plus.From(s, a) })
		meet("Scale", func(a, b api.Ball) (api.Ball, api.Errno) { return plus.Scale(a, s) })
		meet("Re", func(a, b api.Ball) (api.Ball, api.Errno) { return plus.Re(a) })
		meet("Im", func(a, b api.Ball) (api.Ball, api.Errno) { return plus.Im(a) })
		meet("Sum", func(a, b api.Ball) (api.Ball, api.Errno) { return plus.Sum([]api.Ball{a, b, b}) })
	}
	if narrower < 300 {
		t.Error(narrower)
	}
}

// answers are those of all calls.
type answers struct {
	balls [11]api.Ball
	errs  [11]api.Errno
}

func asked(a, b api.Ball, s float64, n int) answers {
	var out answers
	at := 0
	note := func(b api.Ball, err api.Errno) {
		out.balls[at], out.errs[at] = b, err
		at++
	}
	note(plus.Add(a, b))
	note(plus.Sub(a, b))
	note(plus.Neg(a))
	note(plus.Conj(a))
	note(plus.Turn(a, n))
	note(plus.Real(a, s))
	note(plus.From(s, a))
	note(plus.Scale(a, s))
	note(plus.Re(a))
	note(plus.Im(a))
	note(plus.Sum([]api.Ball{a, b}))
	return out
}

// TestP1Total: every call at all floats ends; what comes out may be, or is nothing beside an error.
func TestP1Total(t *testing.T) {
	floats := anyFloats()
	var all []api.Ball
	for _, x := range floats {
		for _, rad := range floats {
			all = append(all, of(x, -x, rad), of(0, x, rad), of(x, 1, rad))
		}
	}
	turns := manyTurns()
	for i, a := range all {
		b, s, n := all[(i*31+7)%len(all)], floats[i%len(floats)], turns[i%len(turns)]
		got := asked(a, b, s, n)
		for k, err := range got.errs {
			if err == api.OK && !ball.Valid(got.balls[k]) || err != api.OK && !alike(got.balls[k], api.Ball{}) {
				t.Errorf("call %d of %v, %v, %v, %v = %v, %v", k, a, b, s, n, got.balls[k], err)
			}
		}
	}
}

// TestP2Again: the same arguments make the same answers, whatever was asked between.
func TestP2Again(t *testing.T) {
	ask := func(r *numbers) answers {
		a, b := r.pair()
		return asked(a, b, r.float(), r.below(math.MaxInt))
	}
	r := numbers{162}
	var first []answers
	for range 300 {
		first = append(first, ask(&r))
	}
	r = numbers{162}
	for i := range first {
		again := ask(&r)
		for k, b := range again.balls {
			check(t, b, again.errs[k], first[i].balls[k], "asked again", i, k)
		}
	}
}

// TestP2Kept: a list that is handed in stays as it is, behind its end too.
func TestP2Kept(t *testing.T) {
	r := numbers{163}
	for range 200 {
		l := r.list(6)
		before := append([]api.Ball(nil), l...)
		if _, err := plus.Sum(l[1 : len(l)-2]); err != api.OK {
			t.Error(err)
		}
		for i := range l {
			check(t, l[i], api.OK, before[i], "the list behind Sum", i)
		}
	}
}
