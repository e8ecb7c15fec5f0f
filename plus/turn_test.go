package plus_test

import (
	"math"
	"testing"

	"cusp/api"
	"cusp/plus"
)

// wantTurn is PL1's, quarter by quarter.
func wantTurn(b api.Ball, n int) api.Ball {
	if b == plane {
		return plane
	}
	x, y := real(b.Mid), imag(b.Mid)
	quarters := map[int]api.Ball{0: b, 1: of(-y, x, b.Rad), 2: of(-x, -y, b.Rad), 3: of(y, -x, b.Rad)}
	return quarters[(n%4+4)%4]
}

func manyTurns() []int {
	out := []int{math.MaxInt, math.MaxInt - 1, math.MaxInt - 2, math.MaxInt - 3, math.MinInt, math.MinInt + 1, math.MinInt + 2, math.MinInt + 3, 1 << 32, 1<<32 + 1, -1<<32 - 1, 1000001}
	for n := range 19 {
		out = append(out, n-9)
	}
	return out
}

func TestPL1TurnCases(t *testing.T) {
	for _, c := range []struct {
		b    api.Ball
		n    int
		want api.Ball
	}{
		{dot(1, 2), 1, dot(-2, 1)}, {of(1, 2, 0.5), 2, of(-1, -2, 0.5)}, {of(1, 2, 0.5), 3, of(2, -1, 0.5)}, {of(1, 2, 0.5), 4, of(1, 2, 0.5)}, {of(1, 2, 0.5), -1, of(2, -1, 0.5)}, {of(1, 2, 0.5), -2, of(-1, -2, 0.5)}, {of(1, 2, 0.5), -3, of(-2, 1, 0.5)}, {of(1, 2, 0.5), -5, of(2, -1, 0.5)},
		{dot(0, 0), 0, dot(0, 0)}, {dot(0, 0), 1, dot(minusZero, 0)}, {dot(0, 0), 2, dot(minusZero, minusZero)}, {dot(0, 0), 3, dot(0, minusZero)}, {dot(minusZero, 0), 1, dot(minusZero, minusZero)}, {dot(minusZero, 3), -1, dot(3, 0)}, {dot(-4, minusZero), 1, dot(0, -4)},
		{of(greatest, least, greatest), 1, of(-least, greatest, greatest)}, {plane, 1, plane}, {plane, 2, plane}, {plane, -1, plane}, {plane, 0, plane},
	} {
		got, err := plus.Turn(c.b, c.n)
		check(t, got, err, c.want, "Turn", c.b, c.n)
	}
}

func TestPL1TurnMany(t *testing.T) {
	r := numbers{152}
	all := corners()
	for range 200 {
		all = append(all, r.ball())
	}
	for _, b := range all {
		for _, n := range manyTurns() {
			got, err := plus.Turn(b, n)
			check(t, got, err, wantTurn(b, n), "Turn", b, n)
		}
	}
}

func TestPL1NegConj(t *testing.T) {
	for _, c := range []struct{ b, neg, conj api.Ball }{
		{of(1, 2, 0.5), of(-1, -2, 0.5), of(1, -2, 0.5)}, {dot(0, 0), dot(minusZero, minusZero), dot(0, minusZero)}, {dot(minusZero, minusZero), dot(0, 0), dot(minusZero, 0)}, {dot(-4, 0), dot(4, minusZero), dot(-4, minusZero)}, {dot(-4, minusZero), dot(4, 0), dot(-4, 0)},
		{of(0, -3, least), of(minusZero, 3, least), of(0, 3, least)}, {of(greatest, -greatest, greatest), of(-greatest, greatest, greatest), of(greatest, greatest, greatest)}, {plane, plane, plane},
	} {
		got, err := plus.Neg(c.b)
		check(t, got, err, c.neg, "Neg", c.b)
		got, err = plus.Conj(c.b)
		check(t, got, err, c.conj, "Conj", c.b)
	}
	r := numbers{153}
	for range 1000 {
		b := r.ball()
		got, err := plus.Neg(b)
		check(t, got, err, negated(b), "Neg", b)
		got, err = plus.Conj(b)
		check(t, got, err, conjugate(b), "Conj", b)
	}
}

// conjugate is b on the other side of the real axis; the plane's middle is 0+0i.
func conjugate(b api.Ball) api.Ball {
	if b == plane {
		return plane
	}
	return of(real(b.Mid), -imag(b.Mid), b.Rad)
}

func TestPL1TurnWrong(t *testing.T) {
	for _, w := range wrongBalls() {
		got, err := plus.Neg(w)
		checkErr(t, got, err, api.ErrBall, "Neg", w)
		got, err = plus.Conj(w)
		checkErr(t, got, err, api.ErrBall, "Conj", w)
		for _, n := range manyTurns() {
			got, err = plus.Turn(w, n)
			checkErr(t, got, err, api.ErrBall, "Turn", w, n)
		}
	}
}
