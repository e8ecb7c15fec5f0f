package times_test

import (
	"math"
	"slices"
	"strconv"
	"testing"

	"cusp/api"
	"cusp/times"
)

// wantPow is TI3's: its binary digits are the library's.
func wantPow(b api.Ball, n int) api.Ball {
	if n == 0 {
		return dot(1, 0)
	}
	out := b
	for _, digit := range strconv.FormatInt(int64(n), 2)[1:] {
		out = wantSqr(out)
		if digit == '1' {
			out = wantMul(out, b)
		}
	}
	return out
}

func checkPow(t *testing.T, b api.Ball, n int) {
	t.Helper()
	got, err := times.Pow(b, n)
	check(t, got, err, wantPow(b, n), "Pow", b, n)
}

func TestTI3PowCases(t *testing.T) {
	for _, c := range []struct {
		b    api.Ball
		n    int
		want api.Ball
	}{
		{dot(2, 0), 10, dot(1024, 0)}, {dot(1, 1), 4, dot(-4, 0)}, {dot(1, 1), 8, dot(16, minusZero)}, {dot(0, 1), 1023, dot(minusZero, -1)}, {dot(0, 1), 1024, dot(1, minusZero)}, {dot(2, 0), 1023, dot(0x1p1023, 0)}, {dot(0.5, 0), 1024, dot(0x1p-1024, 0)}, {dot(-1, minusZero), 3, dot(-1, minusZero)},
		// To the nought: the point 1, whatever the ball is.
		{plane, 0, dot(1, 0)}, {dot(0, 0), 0, dot(1, 0)}, {dot(minusZero, minusZero), 0, dot(1, 0)}, {of(-3, -4, 7), 0, dot(1, 0)}, {of(greatest, 0, greatest), 0, dot(1, 0)},
		// To the first: the ball, bit by bit.
		{plane, 1, plane}, {dot(-4, minusZero), 1, dot(-4, minusZero)}, {dot(minusZero, minusZero), 1, dot(minusZero, minusZero)}, {of(minusZero, 0, least), 1, of(minusZero, 0, least)}, {of(-greatest, greatest, greatest), 1, of(-greatest, greatest, greatest)},
		{of(1, 0, 0.5), 2, of(1, 0, 1.25)}, {of(1, 0, 0.5), 3, of(1, 0, 2.375)}, {of(0, 0, 2), 5, of(0, 0, 32)}, {of(3, 4, 2), 3, of(-117, 44, 218)},
		// Noughts as the products in their order have them.
		{dot(minusZero, minusZero), 2, dot(0, 0)}, {dot(minusZero, 0), 2, dot(0, minusZero)}, {dot(0, minusZero), 3, dot(0, minusZero)},
		{plane, 2, plane}, {plane, 1024, plane}, {dot(2, 0), 1024, plane}, {dot(1e200, 0), 2, plane}, {of(0, 0, 2), 1024, plane}, {of(0, 0, 0.5), 1024, of(0, 0, 0x1p-1024)}, {dot(0x1p-540, 0), 2, of(0, 0, least)}, {of(0.25, 0, 0), 1000, of(0, 0, least)}, {of(0, 0, 0.25), 1000, of(0, 0, least)},
	} {
		got, err := times.Pow(c.b, c.n)
		check(t, got, err, c.want, "Pow", c.b, c.n)
		checkPow(t, c.b, c.n)
	}
}

// TestTI3PowDigits: at inexact balls another order of the products would come to another ball.
func TestTI3PowDigits(t *testing.T) {
	r := numbers{163}
	near := of(0.8, 0.6000001, 1e-9)
	unlike := 0
	for n := range 130 {
		checkPow(t, near, n)
		b := r.modest()
		checkPow(t, b, n)
		row, _ := times.Prod(slices.Repeat([]api.Ball{b}, n))
		if got, _ := times.Pow(b, n); got != row {
			unlike++
		}
	}
	for _, n := range []int{255, 256, 511, 512, 513, 682, 1000, 1022, 1023, 1024} {
		checkPow(t, near, n)
		checkPow(t, of(-0.999, 0.01, 1e-12), n)
	}
	if unlike < 60 {
		t.Error(unlike)
	}
	for range 200 {
		checkPow(t, r.ball(), r.below(12))
	}
	for i, b := range corners() {
		checkPow(t, b, i%7)
	}
}

func TestTI3PowWrong(t *testing.T) {
	wrong := []int{-1, -2, 1025, 1026, 2048, 1 << 32, 1<<32 + 1, 1<<32 + 1024, -1 << 32, math.MaxInt, math.MinInt, math.MinInt + 1}
	for _, n := range wrong {
		for _, b := range []api.Ball{dot(0, 0), dot(1, 0), plane, of(greatest, 0, 1)} {
			got, err := times.Pow(b, n)
			checkErr(t, got, err, api.ErrArg, "Pow", b, n)
		}
	}
	for _, w := range wrongBalls() {
		for _, n := range append(wrong, 0, 1, 2, 1024) {
			got, err := times.Pow(w, n)
			checkErr(t, got, err, api.ErrBall, "Pow", w, n)
		}
	}
}

// wantProd is TI3's.
func wantProd(l []api.Ball) api.Ball {
	if len(l) == 0 {
		return dot(1, 0)
	}
	out := l[0]
	for _, b := range l[1:] {
		out = wantMul(out, b)
	}
	return out
}

func checkProd(t *testing.T, l []api.Ball) {
	t.Helper()
	got, err := times.Prod(l)
	check(t, got, err, wantProd(l), "Prod", l)
}

func TestTI3ProdCases(t *testing.T) {
	type list = []api.Ball
	for _, c := range []struct {
		l    list
		want api.Ball
	}{
		{nil, dot(1, 0)}, {list{}, dot(1, 0)}, {list{dot(minusZero, minusZero)}, dot(minusZero, minusZero)}, {list{of(-4, minusZero, 2)}, of(-4, minusZero, 2)}, {list{plane}, plane},
		{list{dot(1, 2), dot(3, -1)}, dot(5, 5)}, {list{dot(2, 0), dot(0, 3), dot(4, 0)}, dot(0, 24)}, {list{of(1, 0, 0.5), of(1, 0, 0.5), of(0, 1, 1)}, of(0, 1, 3.5)},
		// In order: what goes beyond the greatest float on the way does not come back, nor what is lost below the least one.
		{list{dot(1e200, 0), dot(1e200, 0), dot(1e-200, 0)}, plane}, {list{dot(0x1p600, 0), dot(0x1p-600, 0), dot(0x1p600, 0)}, dot(0x1p600, 0)}, {list{dot(0x1p-600, 0), dot(0x1p-600, 0), dot(0x1p600, 0)}, of(0, 0, 0x1p-474)}, {list{dot(0, 0), plane, dot(0, 0)}, plane}, {list{plane, dot(0, 0)}, plane}, {list{dot(0, 0), plane}, plane},
	} {
		got, err := times.Prod(c.l)
		check(t, got, err, c.want, "Prod", c.l)
		checkProd(t, c.l)
	}
}

func TestTI3ProdMany(t *testing.T) {
	r := numbers{164}
	for range 150 {
		l := r.modestList(r.below(9))
		checkProd(t, l)
		if len(l) > 2 {
			l[1] = r.ball()
			checkProd(t, l)
		}
	}
}

// TestTI3ProdLong: MaxList elements are not too many; one more is, unless a ball among them may not be.
func TestTI3ProdLong(t *testing.T) {
	full := slices.Repeat([]api.Ball{dot(1, 0)}, api.MaxList)
	full[0], full[api.MaxList-1] = of(1, 1, 0.5), dot(0, 3)
	got, err := times.Prod(full)
	check(t, got, err, of(-3, 3, 1.5), "Prod", "MaxList points 1 and two more")
	full[api.MaxList/2] = plane
	got, err = times.Prod(full)
	check(t, got, err, plane, "Prod", "MaxList with the plane")
	for _, b := range []api.Ball{dot(0, 0), plane, of(1, 2, 3)} {
		long := slices.Repeat([]api.Ball{b}, api.MaxList+1)
		got, err := times.Prod(long)
		checkErr(t, got, err, api.ErrArg, "Prod", "too many of", b)
		long[api.MaxList] = of(0, 0, -1)
		got, err = times.Prod(long)
		checkErr(t, got, err, api.ErrBall, "Prod", "too many of, and one that may not be", b)
	}
}

func TestTI3ProdWrong(t *testing.T) {
	for _, w := range wrongBalls() {
		for _, b := range []api.Ball{dot(0, 0), of(1, 2, 3), plane, of(greatest, 0, greatest), w} {
			for at := range 4 {
				l := slices.Repeat([]api.Ball{b}, 4)
				l[at] = w
				got, err := times.Prod(l)
				checkErr(t, got, err, api.ErrBall, "Prod", l)
			}
		}
		got, err := times.Prod([]api.Ball{w})
		checkErr(t, got, err, api.ErrBall, "Prod", w)
	}
}
