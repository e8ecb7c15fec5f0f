package times_test

import (
	"math"
	"slices"
	"testing"

	"cusp/api"
	"cusp/ball"
	"cusp/plus"
	"cusp/span"
	"cusp/times"
)

func TestTI4NormCases(t *testing.T) {
	for _, c := range []struct{ b, want api.Ball }{
		{of(3, 4, 1), of(26, 0, 10)}, {dot(3, 4), dot(25, 0)}, {dot(-3, minusZero), dot(9, 0)}, {dot(0, 0), dot(0, 0)}, {dot(minusZero, minusZero), dot(0, 0)}, {of(0, 0, 2), of(2, 0, 2)}, {of(1, 0, 1), of(2, 0, 2)}, {of(0, -3, 1), of(10, 0, 6)}, {of(0, 1, 2), of(4.5, 0, 4.5)},
		// Magnitudes that are no floats: the ball holds both floats around the square.
		{dot(1, 1), of(2, 0, 0x1p-51)}, {dot(0.1, 0), of(0.010000000000000002, 0, 0x1p-59)},
		{dot(least, 0), of(0, 0, least)}, {of(0, 0, least), of(0, 0, least)}, {dot(0x1p-537, 0), dot(least, 0)},
		{dot(1e200, 0), plane}, {of(0, 0, 0x1p512), plane}, {of(greatest, greatest, greatest), plane}, {dot(0x1p511, 0), dot(0x1p1022, 0)}, {of(0, 0, 0x1p511), of(0x1p1021, 0, 0x1p1021)}, {plane, plane},
	} {
		got, err := times.Norm(c.b)
		check(t, got, err, c.want, "Norm", c.b)
	}
}

// checkNorm holds Norm against the layers below it, as TI4 names them.
func checkNorm(t *testing.T, b api.Ball) {
	t.Helper()
	s, _ := ball.Abs(b)
	squares, _ := span.Pow(s, 2)
	want, _ := ball.From(squares, api.Interval{})
	if b == plane {
		want = plane
	}
	got, err := times.Norm(b)
	check(t, got, err, want, "Norm", b)
}

func TestTI4NormMany(t *testing.T) {
	r := numbers{165}
	for range 2000 {
		checkNorm(t, r.ball())
		checkNorm(t, r.modest())
	}
	for _, b := range corners() {
		checkNorm(t, b)
	}
	for _, w := range wrongBalls() {
		got, err := times.Norm(w)
		checkErr(t, got, err, api.ErrBall, "Norm", w)
	}
}

func TestTI4DotCases(t *testing.T) {
	type list = []api.Ball
	for _, c := range []struct {
		a, b list
		want api.Ball
	}{
		{nil, nil, dot(0, 0)}, {list{}, nil, dot(0, 0)}, {list{dot(1, 0), dot(2, 0)}, list{dot(3, 0), dot(4, 0)}, dot(11, 0)}, {list{of(1, 0, 0.5), dot(0, 1)}, list{of(1, 0, 0.5), of(0, 2, 1)}, of(-1, 0, 2.25)},
		// Of one product it is that one, with its noughts.
		{list{dot(minusZero, 0)}, list{dot(1, 0)}, dot(minusZero, 0)}, {list{dot(0, 0)}, list{dot(-1, minusZero)}, dot(0, minusZero)}, {list{dot(minusZero, 0), dot(minusZero, 0)}, list{dot(1, 0), dot(1, 0)}, dot(minusZero, 0)},
		// In order: what is lost or goes too far on the way stays so.
		{list{dot(1, 0), dot(0x1p-53, 0), dot(-1, 0)}, list{dot(1, 0), dot(1, 0), dot(1, 0)}, of(0, 0, 0x1p-53)}, {list{dot(1, 0), dot(-1, 0), dot(0x1p-53, 0)}, list{dot(1, 0), dot(1, 0), dot(1, 0)}, dot(0x1p-53, 0)}, {list{dot(greatest, 0), dot(greatest, 0), dot(-greatest, 0)}, list{dot(1, 0), dot(1, 0), dot(1, 0)}, plane}, {list{dot(greatest, 0), dot(-greatest, 0), dot(greatest, 0)}, list{dot(1, 0), dot(1, 0), dot(1, 0)}, dot(greatest, 0)},
		{list{plane}, list{dot(0, 0)}, plane}, {list{dot(1, 0), dot(0, 0)}, list{dot(1, 0), plane}, plane}, {list{plane, dot(1, 0)}, list{plane, dot(1, 0)}, plane},
	} {
		got, err := times.Dot(c.a, c.b)
		check(t, got, err, c.want, "Dot", c.a, c.b)
	}
}

// wantDot is TI4's, by the sums of chapter 15.
func wantDot(a, b []api.Ball) api.Ball {
	var out api.Ball
	for i := range a {
		if i == 0 {
			out = wantMul(a[0], b[0])
			continue
		}
		out, _ = plus.Add(out, wantMul(a[i], b[i]))
	}
	return out
}

func TestTI4DotMany(t *testing.T) {
	r := numbers{166}
	for range 150 {
		n := r.below(9)
		a, b := r.modestList(n), r.modestList(n)
		got, err := times.Dot(a, b)
		check(t, got, err, wantDot(a, b), "Dot", a, b)
		if n > 1 {
			a[0], b[n-1] = r.ball(), r.ball()
			got, err = times.Dot(a, b)
			check(t, got, err, wantDot(a, b), "Dot", a, b)
		}
	}
}

func TestTI4DotWrong(t *testing.T) {
	type list = []api.Ball
	many := func(b api.Ball, n int) list { return slices.Repeat(list{b}, n) }
	for _, c := range [][2]list{{nil, many(dot(1, 0), 1)}, {many(plane, 2), many(plane, 1)}, {many(dot(1, 0), 3), nil}, {many(dot(0, 0), api.MaxList), many(dot(0, 0), api.MaxList-1)}, {many(dot(0, 0), api.MaxList+1), many(dot(0, 0), api.MaxList+1)}, {many(plane, api.MaxList+1), nil}} {
		got, err := times.Dot(c[0], c[1])
		checkErr(t, got, err, api.ErrArg, "Dot", len(c[0]), len(c[1]))
	}
	for _, w := range wrongBalls() {
		for n := range 4 {
			for at := range n + 1 {
				a := many(of(1, 2, 3), n+1)
				a[at] = w
				for _, b := range []list{nil, many(dot(1, 0), n), many(plane, n+1), many(dot(1, 0), n+2)} {
					got, err := times.Dot(a, b)
					checkErr(t, got, err, api.ErrBall, "Dot", a, b)
					got, err = times.Dot(b, a)
					checkErr(t, got, err, api.ErrBall, "Dot", b, a)
				}
			}
		}
	}
	long := many(dot(1, 0), api.MaxList+1)
	long[api.MaxList] = of(0, 0, -1)
	got, err := times.Dot(long, long)
	checkErr(t, got, err, api.ErrBall, "Dot", "too many, and one that may not be")
}

// TestTI4DotLong: MaxList products are not too many.
func TestTI4DotLong(t *testing.T) {
	a, b := make([]api.Ball, api.MaxList), make([]api.Ball, api.MaxList)
	for i := range a {
		a[i], b[i] = dot(float64(i), 1), dot(1, 0)
	}
	b[7].Rad = 1
	got, err := times.Dot(a, b)
	check(t, got, err, of(api.MaxList*(api.MaxList-1)/2, api.MaxList, 0x1.c48c6001f0acp2), "Dot", "MaxList products")
}

func checkRow(t *testing.T, a, b []api.Ball, n int) {
	t.Helper()
	got, err := times.Row(a, b, n)
	if len(got) != n || err != api.OK {
		t.Fatalf("Row(%v, %v, %d) = %v, %v", a, b, n, got, err)
	}
	for k := range got {
		var left, right []api.Ball
		for i := range k + 1 {
			if i < len(a) && k-i < len(b) {
				left, right = append(left, a[i]), append(right, b[k-i])
			}
		}
		check(t, got[k], api.OK, wantDot(left, right), "Row", k, a, b)
	}
}

func TestTI6RowCases(t *testing.T) {
	type list = []api.Ball
	for _, c := range []struct{ a, b, want list }{
		{list{dot(1, 0), dot(1, 0)}, list{dot(1, 0), dot(-1, 0)}, list{dot(1, 0), dot(0, 0), dot(-1, 0), dot(0, 0)}},
		{list{dot(1, 0), dot(2, 0), dot(3, 0)}, list{dot(4, 0), dot(5, 0)}, list{dot(4, 0), dot(13, 0), dot(22, 0), dot(15, 0), dot(0, 0)}},
		{list{dot(1, 0), dot(2, 0), dot(3, 0)}, list{dot(4, 0), dot(5, 0)}, list{dot(4, 0), dot(13, 0)}},
		{list{of(1, 0, 1), dot(0, 1)}, list{of(0, 1, 0.5), of(2, 0, 0.25)}, list{of(0, 1, 2), of(1, 0, 3), of(0, 2, 0.25), dot(0, 0)}},
		{nil, nil, list{dot(0, 0), dot(0, 0)}}, {list{plane}, nil, list{dot(0, 0)}}, {nil, list{plane}, list{dot(0, 0), dot(0, 0)}}, {list{dot(1, 0)}, list{dot(1, 0)}, nil}, {nil, nil, nil},
		// Noughts with their signs; the plane goes where it is a factor, no farther.
		{list{dot(minusZero, 0)}, list{dot(1, 0)}, list{dot(minusZero, 0), dot(0, 0)}}, {list{plane, dot(1, 0)}, list{dot(0, 0), dot(2, 0), dot(3, 0)}, list{plane, plane, plane, dot(3, 0), dot(0, 0)}}, {list{dot(1, 0), plane}, list{dot(2, 0)}, list{dot(2, 0), plane, dot(0, 0)}},
	} {
		got, err := times.Row(c.a, c.b, len(c.want))
		if len(got) != len(c.want) || err != api.OK {
			t.Errorf("Row(%v, %v) = %v, %v", c.a, c.b, got, err)
			continue
		}
		for k, want := range c.want {
			check(t, got[k], api.OK, want, "Row", k, c.a, c.b)
		}
		checkRow(t, c.a, c.b, len(c.want))
	}
}

// TestTI6RowMany: products in another order would lose other digits.
func TestTI6RowMany(t *testing.T) {
	r := numbers{167}
	for range 60 {
		a, b := r.modestList(r.below(7)), r.modestList(r.below(7))
		if len(a) > 1 && r.below(3) == 0 {
			a[1] = r.ball()
		}
		checkRow(t, a, b, r.below(16))
	}
}

// TestTI6RowLong: 256 of everything are not too many.
func TestTI6RowLong(t *testing.T) {
	ones := slices.Repeat([]api.Ball{dot(1, 0)}, 256)
	got, err := times.Row(ones, ones, 256)
	if len(got) != 256 || err != api.OK {
		t.Fatal(len(got), err)
	}
	for k, b := range got {
		check(t, b, api.OK, dot(float64(k+1), 0), "Row", k)
	}
	got, err = times.Row(ones[:3], ones, 256)
	if len(got) != 256 || got[0].Mid != 1 || got[2].Mid != 3 || got[255].Mid != 3 || err != api.OK {
		t.Error(got, err)
	}
	got, err = times.Row(ones, ones[:1], 256)
	if len(got) != 256 || got[255].Mid != 1 || err != api.OK {
		t.Error(got, err)
	}
}

func TestTI6RowWrong(t *testing.T) {
	wrong := []int{-1, -256, 257, 1 << 32, 1<<32 + 1, math.MaxInt, math.MinInt}
	ask := func(a, b []api.Ball, n int, want api.Errno) {
		t.Helper()
		got, err := times.Row(a, b, n)
		if len(got) != 0 || err != want {
			t.Errorf("Row of %d and %d balls, %d = %.200v, %v, want the error %v", len(a), len(b), n, got, err, want)
		}
	}
	short, long := []api.Ball{dot(1, 0), plane}, slices.Repeat([]api.Ball{dot(1, 0)}, 257)
	for _, n := range append(wrong, 0, 1, 256) {
		ask(long, short, n, api.ErrArg)
		ask(short, long, n, api.ErrArg)
		ask(long, nil, n, api.ErrArg)
	}
	for _, n := range wrong {
		ask(short, short, n, api.ErrArg)
		ask(nil, nil, n, api.ErrArg)
	}
	for _, w := range wrongBalls() {
		for _, n := range append(wrong, 0, 1, 3) { // a ball behind the n-th counts, too
			ask([]api.Ball{dot(1, 0), dot(2, 0), w}, short, n, api.ErrBall)
			ask(short, []api.Ball{dot(1, 0), w, plane}, n, api.ErrBall)
			ask([]api.Ball{w}, nil, n, api.ErrBall)
			ask(nil, []api.Ball{w}, n, api.ErrBall)
			ask(append(slices.Clone(long), w), nil, n, api.ErrBall)
		}
	}
}
