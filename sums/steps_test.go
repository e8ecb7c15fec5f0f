package sums_test

import (
	"math"
	"testing"

	"cusp/sums"
)

// TestSU1Examples: Row, Halves and Two as the chapter tells them, at their edges.
func TestSU1Examples(t *testing.T) {
	l := []float64{1, 1e100, 1, -1e100}
	check(t, sums.Row(l), 0, "Row", l)
	check(t, sums.Halves(l), 0, "Halves", l)
	for _, none := range [][]float64{nil, {}} {
		check(t, sums.Row(none), 0, "Row", none)
		check(t, sums.Halves(none), 0, "Halves", none)
	}
	for _, f := range append(edges(), nans()...) { // -0 and a NaN, too, are themselves
		check(t, sums.Row([]float64{f}), f, "Row", f)
		check(t, sums.Halves([]float64{f}), f, "Halves", f)
	}
	noughts := []float64{minusZero, minusZero, minusZero}
	check(t, sums.Row(noughts), minusZero, "Row", noughts)
	check(t, sums.Halves(noughts), minusZero, "Halves", noughts)
	check(t, sums.Row([]float64{minusZero, 0}), 0, "Row", minusZero, 0)
	check(t, sums.Row([]float64{1, -1}), 0, "Row", 1, -1)
	check(t, sums.Row([]float64{greatest, greatest, -greatest}), inf, "Row", "greatest")
	check(t, sums.Row([]float64{greatest, greatest, -inf}), nan, "Row", "greatest and -Inf")
}

// TestSU1Halves: of an odd number the first half is the smaller one.
func TestSU1Halves(t *testing.T) {
	for _, c := range []struct {
		list []float64
		want float64
	}{
		{[]float64{1, 0x1p-53, 0x1p-53}, afterOne},                  // 1 + (b + c)
		{[]float64{0x1p-53, 0x1p-53, 1}, 1},                         // a + (b + c)
		{[]float64{0x1p-53, 0x1p-53, 1, 0}, afterOne},               // (a + b) + (c + d)
		{[]float64{0x1p-53, 1, 0x1p-53, 0x1p-53, 0}, afterOne},      // (a + b) + (c + (d + e))
		{[]float64{1, 0x1p-53, 0, 0x1p-53, 0x1p-53, 0}, afterOne},   // (a + (b + c)) + (d + (e + f))
		{[]float64{0x1p-53, 0x1p-53, 1, 0, 0, 0, -1}, 0},            // (a + (b + c)) + ..
		{[]float64{0, 0x1p-53, 0x1p-53, 1, 0, 0, -1, 0}, 0},         // ((a + b) + (c + d)) + ..
		{[]float64{1e16, 1, 1, 0, -1e16, 0, 0, 0}, 0},               // (1e16 + 1) + (1 + 0)
		{[]float64{1e16, 0, 1, 1, -1e16, 0, 0, 0}, 2},               // (1e16 + 0) + (1 + 1)
		{[]float64{inf, 1, -inf, 1}, nan}, {[]float64{inf, 1}, inf}, // no other rule for what is not finite
	} {
		check(t, sums.Halves(c.list), c.want, "Halves", c.list)
	}
}

// TestSU1P6Steps: Row and Halves are the steps that the chapter tells, held against the machine's own sums to the nearest.
func TestSU1P6Steps(t *testing.T) {
	r := numbers{seed: 501}
	for range 3000 {
		l := r.mixed(20)
		check(t, sums.Row(l), rowOf(l), "Row", l)
		check(t, sums.Halves(l), halvesOf(l), "Halves", l)
		check(t, sums.Kept(l), keptOf(l), "Kept", l)
	}
}

func rowOf(l []float64) float64 {
	if len(l) == 0 {
		return 0
	}
	sum := l[0]
	for i := 1; i < len(l); i++ {
		sum = float64(sum + l[i])
	}
	return sum
}

func halvesOf(l []float64) float64 {
	if len(l) < 2 {
		return rowOf(l)
	}
	first := (len(l) - len(l)%2) / 2
	return float64(halvesOf(l[:first]) + halvesOf(l[first:]))
}

func keptOf(l []float64) float64 {
	s, c := 0.0, 0.0
	for _, x := range l {
		t := float64(s + x)
		switch {
		case math.Abs(s) >= math.Abs(x):
			c = float64(c + float64(float64(s-t)+x))
		default:
			c = float64(c + float64(float64(x-t)+s))
		}
		s = t
	}
	return float64(s + c)
}

// TestSU1LongLists: Row, Halves and Kept have no longest list.
func TestSU1LongLists(t *testing.T) {
	l := make([]float64, 70001)
	for i := range l {
		l[i] = 1
	}
	check(t, sums.Row(l), 70001, "Row", "ones")
	check(t, sums.Halves(l), 70001, "Halves", "ones")
	check(t, sums.Kept(l), 70001, "Kept", "ones")
}

// TestSU1Two: the sum, and what it lost.
func TestSU1Two(t *testing.T) {
	for _, c := range []struct{ a, b, sum, lost float64 }{
		{1e16, 1, 1e16, 1}, {1, 1e16, 1e16, 1}, {1, 1, 2, 0}, {1, -1, 0, 0},
		{1, 0x1p-60, 1, 0x1p-60}, {1, -0x1p-60, 1, -0x1p-60}, {1, 0x1p-53, 1, 0x1p-53}, {afterOne, 0x1p-53, 0x1.0000000000002p0, -0x1p-53},
		{minusZero, minusZero, minusZero, 0}, {minusZero, 0, 0, 0}, {0, 0, 0, 0}, {-1, 1, 0, 0},
		{greatest, greatest, inf, 0}, {-greatest, -greatest, -inf, 0}, {greatest, topUnit / 2, inf, 0}, {greatest, topUnit / 4, greatest, topUnit / 4},
		{greatest, least, greatest, least}, {greatest, -least, greatest, -least}, {least, least, 2 * least, 0},
		{inf, 1, inf, 0}, {inf, -inf, nan, 0}, {inf, inf, inf, 0}, {nan, 1, nan, 0}, {1, nan, nan, 0}, {-inf, greatest, -inf, 0},
	} {
		sum, lost := sums.Two(c.a, c.b)
		check(t, sum, c.sum, "Two", c.a, c.b)
		check(t, lost, c.lost, "what Two lost", c.a, c.b)
	}
}

// TestSU5Two: both parts have the exact sum, bit by bit as the document asks.
func TestSU5Two(t *testing.T) {
	r := numbers{seed: 502}
	all := edges()
	for i := range 20000 {
		a, b := r.float(), r.float()
		if i < len(all)*len(all) {
			a, b = all[i%len(all)], all[i/len(all)]
		}
		sum, lost := sums.Two(a, b)
		check(t, sum, float64(a+b), "Two", a, b)
		if math.IsInf(sum, 0) || sum != sum {
			check(t, lost, 0, "what Two lost", a, b)
			continue
		}
		if plus(wide(sum), wide(lost)).Cmp(sumOf([]float64{a, b})) != 0 {
			t.Errorf("Two(%x, %x) = %x, %x", a, b, sum, lost)
		}
		if lost == 0 {
			check(t, lost, 0, "what Two lost", a, b)
		}
	}
}

// TestSU2Examples: Kept, with the cases in which what is lost is lost after all.
func TestSU2Examples(t *testing.T) {
	for _, c := range []struct {
		list []float64
		want float64
	}{
		{nil, 0}, {[]float64{}, 0}, {[]float64{minusZero}, 0}, {[]float64{5}, 5},
		{[]float64{1, 1e100, 1, -1e100}, 2},
		{[]float64{1e100, 1, -1e100}, 1}, {[]float64{1, 1e100, -1e100}, 1},
		{[]float64{0x1p53, 1, 1}, 0x1p53 + 2}, {[]float64{1, -0x1p53, -1, 0x1p53}, 0},
		{[]float64{1e16, 1, 1e-16, -1e16, -1}, 0}, // c is 1 and loses 1e-16
		{[]float64{greatest, greatest, -greatest}, nan}, {[]float64{inf}, nan}, {[]float64{-inf, 1}, nan}, {[]float64{1, nan}, nan},
	} {
		check(t, sums.Kept(c.list), c.want, "Kept", c.list)
	}
}

// TestSU5HalvesOfFour: they are (a + b) + (c + d).
func TestSU5HalvesOfFour(t *testing.T) {
	r := numbers{seed: 503}
	for range 2000 {
		a, b, c, d := r.float(), r.float(), r.float(), r.float()
		check(t, sums.Halves([]float64{a, b, c, d}), float64(float64(a+b)+float64(c+d)), "Halves", a, b, c, d)
	}
}
