package sums_test

import (
	"testing"

	"cusp/api"
	"cusp/sums"
)

// filled is a list of that many like floats.
func filled(n int, f float64) []float64 {
	out := make([]float64, n)
	for i := range out {
		out[i] = f
	}
	return out
}

// withAt is a list that has another float at one place.
func withAt(l []float64, i int, f float64) []float64 {
	out := append([]float64(nil), l...)
	out[i] = f
	return out
}

// checkList: what Exact, Lost and Apart answer of a list that is wrong, in each mode.
func checkList(t *testing.T, l []float64, want api.Errno, what string) {
	t.Helper()
	for _, mode := range modes {
		got, err := sums.Exact(l, mode)
		checkWithError(t, got, err, 0, want, "Exact", what)
	}
	got, err := sums.Lost(l, 1)
	checkWithError(t, got, err, 0, want, "Lost", what)
	if parts, err := sums.Apart(l); len(parts) != 0 || err != want {
		t.Errorf("Apart(%s) = %v, %v; want %v", what, parts, err, want)
	}
}

// TestSU3SU4P1Errors: each error, and which comes first.
func TestSU3SU4P1Errors(t *testing.T) {
	long := filled(api.MaxList+1, 1)
	checkList(t, long, api.ErrLong, "too many")
	checkList(t, withAt(long, 0, nan), api.ErrLong, "too many, a NaN")
	checkList(t, withAt(long, api.MaxList, inf), api.ErrLong, "too many, an infinity")
	for _, n := range nans() {
		checkList(t, []float64{n}, api.ErrNaN, "a NaN")
		checkList(t, []float64{1, 2, n}, api.ErrNaN, "a NaN at the end")
		checkList(t, []float64{inf, n}, api.ErrNaN, "an infinity, a NaN")
		checkList(t, []float64{n, -inf, 2}, api.ErrNaN, "a NaN, an infinity")
	}
	checkList(t, []float64{inf}, api.ErrInf, "an infinity")
	checkList(t, []float64{1, -inf}, api.ErrInf, "an infinity at the end")
	checkList(t, []float64{inf, -inf}, api.ErrInf, "both infinities")
}

// TestSU3P1Mode: a mode that is none comes ahead of all.
func TestSU3P1Mode(t *testing.T) {
	for _, mode := range wrongModes() {
		for _, l := range [][]float64{nil, {1}, {minusZero}, {nan}, {inf}, filled(api.MaxList+1, 1)} {
			got, err := sums.Exact(l, mode)
			checkWithError(t, got, err, 0, api.ErrArg, "Exact", len(l), mode)
			got, err = sums.Dot(l, l, mode)
			checkWithError(t, got, err, 0, api.ErrArg, "Dot", len(l), mode)
		}
	}
}

// TestSU3P1Dot: lists that are not as many, too long, or not finite.
func TestSU3P1Dot(t *testing.T) {
	long := filled(api.MaxList+1, 1)
	for _, c := range []struct {
		a, b []float64
		want api.Errno
	}{
		{nil, []float64{1}, api.ErrArg}, {[]float64{1}, nil, api.ErrArg}, {[]float64{nan}, []float64{1, inf}, api.ErrArg}, {long, long[1:], api.ErrArg}, {long[1:], long, api.ErrArg},
		{long, long, api.ErrLong}, {withAt(long, 3, nan), long, api.ErrLong}, {long, withAt(long, 3, inf), api.ErrLong},
		{[]float64{nan}, []float64{1}, api.ErrNaN}, {[]float64{1}, []float64{nan}, api.ErrNaN}, {[]float64{inf}, []float64{nan}, api.ErrNaN}, {[]float64{nan}, []float64{inf}, api.ErrNaN},
		{[]float64{inf, 1}, []float64{1, nan}, api.ErrNaN}, {[]float64{nan, 0}, []float64{0, 1}, api.ErrNaN},
		{[]float64{inf}, []float64{1}, api.ErrInf}, {[]float64{1}, []float64{-inf}, api.ErrInf}, {[]float64{0}, []float64{inf}, api.ErrInf}, {[]float64{1, inf}, []float64{-inf, 1}, api.ErrInf},
	} {
		for _, mode := range modes {
			got, err := sums.Dot(c.a, c.b, mode)
			checkWithError(t, got, err, 0, c.want, "Dot", len(c.a), len(c.b), mode)
		}
	}
}

// TestSU3P1Lost: the float is looked at, too.
func TestSU3P1Lost(t *testing.T) {
	long := filled(api.MaxList+1, 1)
	for _, c := range []struct {
		list []float64
		s    float64
		want api.Errno
	}{
		{nil, nan, api.ErrNaN}, {nil, inf, api.ErrInf}, {nil, -inf, api.ErrInf}, {[]float64{1}, nan, api.ErrNaN}, {[]float64{1}, inf, api.ErrInf},
		{[]float64{inf}, nan, api.ErrNaN}, {[]float64{nan}, inf, api.ErrNaN}, {[]float64{inf}, inf, api.ErrInf},
		{long, nan, api.ErrLong}, {long, inf, api.ErrLong},
	} {
		got, err := sums.Lost(c.list, c.s)
		checkWithError(t, got, err, 0, c.want, "Lost", len(c.list), c.s)
	}
}

// TestSU3Longest: lists as long as they may be, of the greatest and the least floats.
func TestSU3Longest(t *testing.T) {
	for _, c := range []struct{ part, down, near, up float64 }{
		{1, 0x1p16, 0x1p16, 0x1p16}, {greatest, greatest, inf, inf}, {-greatest, -inf, -inf, -greatest}, {least, 0x1p-1058, 0x1p-1058, 0x1p-1058}, {minusZero, minusZero, minusZero, minusZero},
	} {
		l := filled(api.MaxList, c.part)
		for i, mode := range modes {
			got, err := sums.Exact(l, mode)
			checkWithError(t, got, err, [3]float64{c.down, c.near, c.up}[i], api.OK, "Exact", c.part, mode)
		}
	}
	l := filled(api.MaxList, greatest)
	for i := range l {
		if i%2 == 0 {
			l[i] = -least
		}
	}
	if got, err := sums.Dot(l, l, api.Down); got != greatest || err != api.OK {
		t.Errorf("Dot of the greatest = %x, %v", got, err)
	}
	if got, err := sums.Lost(l, 1); !same(got, inf) || err != api.OK {
		t.Errorf("Lost of the greatest = %x, %v", got, err)
	}
	for i := range l {
		l[i] = 0x1p-500 * float64(1-i%2*2) * float64(i/2+1)
	}
	l[0], l[api.MaxList/2] = greatest, least
	got, err := sums.Apart(l)
	if len(got) < 3 || got[0] != greatest || err != api.OK {
		t.Errorf("Apart of many = %x, %v", got, err)
	}
	if sumOf(got).Cmp(sumOf(l)) != 0 {
		t.Errorf("Apart of many has not the sum")
	}
}

// TestP2Alone: arguments stay as they are, answers are new memory and hang on the arguments alone.
func TestP2Alone(t *testing.T) {
	r := numbers{seed: 509}
	for range 200 {
		a := r.list(10)
		b := r.shuffled(a)
		wasA, wasB := append([]float64(nil), a...), append([]float64(nil), b...)
		first := answers(a, b)
		if got := answers(a, b); !sameList(got, first) {
			t.Fatalf("answers %v, then %v", first, got)
		}
		if !sameList(a, wasA) || !sameList(b, wasB) {
			t.Fatalf("an argument was changed: %v, %v", a, b)
		}
	}
	l := []float64{1}
	one, _ := sums.Apart(l)
	two, _ := sums.Apart(l)
	for i := range one[:cap(one)] {
		one[:cap(one)][i] = 7
	}
	if l[0] != 1 || two[0] != 1 {
		t.Errorf("answers share memory: %v, %v", l, two)
	}
}

// answers are all that the package tells of two lists.
func answers(a, b []float64) []float64 {
	out := []float64{sums.Row(a), sums.Halves(a), sums.Kept(a)}
	for _, mode := range modes {
		sum, _ := sums.Exact(a, mode)
		dot, _ := sums.Dot(a, b, mode)
		out = append(out, sum, dot)
	}
	lost, _ := sums.Lost(a, 1)
	parts, _ := sums.Apart(a)
	return append(append(out, lost), parts...)
}
