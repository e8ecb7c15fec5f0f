package plus_test

import (
	"math/big"
	"slices"
	"testing"

	"cusp/api"
	"cusp/plus"
)

// nearest is an exact sum, rounded by the library to the nearest; what comes to 0 is -0 just if all parts are.
func nearest(sum *big.Int, parts []float64) float64 {
	if sum.Sign() == 0 {
		if len(parts) > 0 && !slices.ContainsFunc(parts, func(f float64) bool { return !same(f, minusZero) }) {
			return minusZero
		}
		return 0
	}
	n := new(big.Float).SetInt(sum)
	f, _ := n.SetMantExp(n, -place).Float64()
	return f
}

// wantSum is PL3's.
func wantSum(l []api.Ball) api.Ball {
	var re, im []float64
	x, y, far := new(big.Int), new(big.Int), new(big.Int)
	for _, b := range l {
		if b == plane {
			return plane
		}
		re, im = append(re, real(b.Mid)), append(im, imag(b.Mid))
		x.Add(x, whole(real(b.Mid)))
		y.Add(y, whole(imag(b.Mid)))
		far.Add(far, whole(b.Rad))
	}
	return wantAround(complex(nearest(x, re), nearest(y, im)), x, y, far)
}

func checkSum(t *testing.T, l []api.Ball) {
	t.Helper()
	got, err := plus.Sum(l)
	check(t, got, err, wantSum(l), "Sum", l)
}

func repeated(b api.Ball, n int) []api.Ball { return slices.Repeat([]api.Ball{b}, n) }

func TestPL3Cases(t *testing.T) {
	type list = []api.Ball
	for _, c := range []struct {
		l    list
		want api.Ball
	}{
		{nil, dot(0, 0)}, {list{}, dot(0, 0)}, {list{of(1, minusZero, 0.5)}, of(1, minusZero, 0.5)}, {list{dot(minusZero, minusZero)}, dot(minusZero, minusZero)}, {list{plane}, plane}, {repeated(dot(minusZero, 0), 3), dot(minusZero, 0)}, {list{dot(minusZero, 1), dot(0, -1)}, dot(0, 0)},
		{list{of(1, 0, 0.5), of(0, 2, 0.25)}, of(1, 2, 0.75)},
		// The middle's exact sum is rounded once, whatever goes away on the way; its error counts.
		{list{dot(1, 1), dot(1e100, -1e100), dot(1, 1), dot(-1e100, 1e100)}, dot(2, 2)}, {list{dot(1, 0), dot(0x1p-53, 0), dot(0x1p-53, 0)}, dot(afterOne, 0)}, {list{dot(1, 0), dot(0x1p-53, 0), dot(0x1p-54, 0)}, of(afterOne, 0, 0x1p-54)}, {list{dot(1, 0), dot(0x1p-53, 0)}, of(1, 0, 0x1p-53)}, {repeated(dot(0.1, 0), 10), of(1, 0, 0x1p-54)},
		{list{dot(0, greatest), dot(0, greatest), dot(0, -greatest)}, dot(0, greatest)}, {list{dot(greatest, 0), dot(1, 0), dot(-greatest, 0)}, dot(1, 0)}, {list{dot(least, 0), dot(greatest, 0)}, of(greatest, 0, least)},
		// So are the radii.
		{list{of(0, 0, 1), of(0, 0, 0x1p-53), of(0, 0, 0x1p-53)}, of(0, 0, afterOne)}, {list{of(0, 0, 0x1p-53), of(0, 0, 1), of(0, 0, 0x1p-53)}, of(0, 0, afterOne)}, {list{of(1, 0, 1), of(0x1p-60, 0, 0x1p-54), of(0, 0x1p-60, 0x1p-55)}, of(1, 0x1p-60, afterOne)}, {list{of(1, 0, greatest), of(1, 0, 0), of(0, 0, least)}, plane},
		// Beyond the greatest float
		{repeated(dot(greatest, 0), 2), plane}, {list{dot(0, -greatest), dot(1, -greatest)}, plane}, {list{of(0, 0, greatest), of(0, 0, greatest), dot(1, 1)}, plane}, {list{dot(1, 1), plane, dot(greatest, greatest)}, plane}, {list{plane, dot(1, 1)}, plane}, {list{dot(1, 1), plane}, plane}, {list{plane, plane}, plane},
	} {
		got, err := plus.Sum(c.l)
		check(t, got, err, c.want, "Sum", c.l)
		checkSum(t, c.l)
	}
}

func (r *numbers) list(n int) []api.Ball {
	var out []api.Ball
	for range n {
		a, b := r.pair()
		if r.below(8) > 0 && infinite(a.Rad+b.Rad) { // seldom the plane
			a, b = dot(1, 2), of(-3, 4, 5)
		}
		out = append(out, a, b)
	}
	return out[:len(out)-r.below(2)]
}

func TestPL3Many(t *testing.T) {
	r := numbers{155}
	finite := 0
	for range 1500 {
		l := r.list(1 + r.below(10))
		checkSum(t, l)
		if wantSum(l) != plane {
			finite++
		}
		b := []api.Ball{r.ball(), r.ball()}
		checkSum(t, b)
		sum, _ := plus.Add(b[0], b[1])
		check(t, sum, api.OK, wantSum(b), "Add", b)
	}
	if finite < 500 {
		t.Error(finite)
	}
}

// TestPL3Long: MaxList balls are not too many; one more is, whatever they are.
func TestPL3Long(t *testing.T) {
	full := repeated(of(0.1, -0.1, 0.1), api.MaxList)
	full[7] = of(1e300, 1e-300, least)
	checkSum(t, full)
	checkSum(t, repeated(plane, api.MaxList))
	for _, b := range []api.Ball{dot(0, 0), plane, of(nan, 0, 0), of(0, 0, -1)} {
		got, err := plus.Sum(repeated(b, api.MaxList+1))
		checkErr(t, got, err, api.ErrLong, "Sum", "too many of", b)
	}
}

// TestPL3Wrong: one ball that may not be, wherever it stands, of balls that are the plane too.
func TestPL3Wrong(t *testing.T) {
	for _, w := range wrongBalls() {
		for _, b := range []api.Ball{dot(0, 0), of(1, 2, 3), plane, of(greatest, 0, greatest), w} {
			for at := range 4 {
				l := repeated(b, 4)
				l[at] = w
				got, err := plus.Sum(l)
				checkErr(t, got, err, api.ErrBall, "Sum", l)
			}
			got, err := plus.Sum([]api.Ball{w})
			checkErr(t, got, err, api.ErrBall, "Sum", w)
		}
	}
	l := repeated(dot(1, 1), api.MaxList)
	l[len(l)-1] = of(0, 0, -1)
	got, err := plus.Sum(l)
	checkErr(t, got, err, api.ErrBall, "Sum", "the last of MaxList")
}
