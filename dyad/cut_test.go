package dyad_test

import (
	"math/big"
	"testing"

	"cusp/api"
	"cusp/dyad"
)

// fraction is a * 2^k, as a whole number over a power of two.
func fraction(a dyad.Num, k int) (*big.Int, *big.Int) {
	k += a.E
	return new(big.Int).Lsh(toBig(a), uint(max(k, 0))), new(big.Int).Lsh(big.NewInt(1), uint(max(-k, 0)))
}

// wantCut holds the answer of Floor, Quo or Root against the whole number of units that it must be.
func wantCut(t *testing.T, what string, got dyad.Num, exact bool, err api.Errno, units *big.Int, place int, is bool) {
	t.Helper()
	want := ofBig(units, -place)
	if !dyad.Valid(want) {
		if exact {
			t.Errorf("%s: true beside an error", what)
		}
		wantErr(t, what, got, err, api.ErrLong)
		return
	}
	wantNum(t, what, got, err, want)
	if exact != is {
		t.Errorf("%s: exact is %v", what, exact)
	}
}

// floorUnits is the greatest whole number that is not above m / d, and whether it is that.
func floorUnits(m, d *big.Int) (*big.Int, bool) {
	if d.Sign() < 0 {
		m, d = new(big.Int).Neg(m), new(big.Int).Neg(d)
	}
	q, r := new(big.Int).DivMod(m, d, new(big.Int)) // d is above 0: it is the floor
	return q, r.Sign() == 0
}

func checkFloor(t *testing.T, a dyad.Num, place int) {
	t.Helper()
	got, exact, err := dyad.Floor(a, place)
	units, is := floorUnits(fraction(a, place))
	wantCut(t, "Floor "+brief(a), got, exact, err, units, place, is)
}

func checkQuo(t *testing.T, a, b dyad.Num, place int) {
	t.Helper()
	got, exact, err := dyad.Quo(a, b, place)
	m, d := fraction(a, place-b.E)
	units, is := floorUnits(m, d.Mul(d, toBig(b)))
	wantCut(t, "Quo "+brief(a)+" "+brief(b), got, exact, err, units, place, is)
}

func checkRoot(t *testing.T, a dyad.Num, place int) {
	t.Helper()
	got, exact, err := dyad.Root(a, place)
	square, is := floorUnits(fraction(a, 2*place))
	units := new(big.Int).Sqrt(square)
	is = is && new(big.Int).Mul(units, units).Cmp(square) == 0
	wantCut(t, "Root "+brief(a), got, exact, err, units, place, is)
}

func TestD3Examples(t *testing.T) {
	for _, c := range []struct {
		a, b  dyad.Num
		place int
		want  string
		exact bool
	}{
		{of(1), of(3), 4, "5p-4", false}, {of(-1), of(3), 4, "-3p-3", false}, {of(1), of(-3), 4, "-3p-3", false}, {of(-1), of(-3), 4, "5p-4", false},
		{of(6), of(3), 0, "1p1", true}, {of(-6), of(3), 0, "-1p1", true}, {of(6), of(4), 0, "1p0", false}, {of(-6), of(4), 0, "-1p1", false}, {of(6), of(4), 1, "3p-1", true},
		{of(7), of(2), -1, "1p1", false}, {of(-7), of(2), -1, "-1p2", false}, {of(8), of(2), -2, "1p2", true},
		{of(0), of(-3), 9, "0p0", true}, {of(1), of(3), -9, "0p0", false}, {of(-1), of(3), -9, "-1p9", false}, {of(1), of(3), 1, "0p0", false},
	} {
		got, exact, err := dyad.Quo(c.a, c.b, c.place)
		if dyad.Show(got) != c.want || exact != c.exact || err != api.OK {
			t.Errorf("Quo(%s, %s, %d) = %s, %v, %v", brief(c.a), brief(c.b), c.place, dyad.Show(got), exact, err)
		}
	}
	for _, c := range []struct {
		a     dyad.Num
		place int
		want  string
		exact bool
	}{
		{of(2), 8, "b5p-7", false}, {of(2), 0, "1p0", false}, {of(4), 0, "1p1", true}, {of(4), -1, "1p1", true}, {of(4), -2, "0p0", false}, {of(0), 5, "0p0", true}, {of(0), -5, "0p0", true},
		{of(0.25), 1, "1p-1", true}, {of(0.25), 0, "0p0", false}, {of(0.5), 1, "1p-1", false}, {of(9), 3, "3p0", true}, {of(9), -1, "1p1", false}, {of(99), 0, "9p0", false}, {of(3), 0, "1p0", false},
	} {
		got, exact, err := dyad.Root(c.a, c.place)
		if dyad.Show(got) != c.want || exact != c.exact || err != api.OK {
			t.Errorf("Root(%s, %d) = %s, %v, %v", brief(c.a), c.place, dyad.Show(got), exact, err)
		}
	}
	for _, c := range []struct {
		a     dyad.Num
		place int
		want  string
		exact bool
	}{
		{of(0.75), 0, "0p0", false}, {of(-0.75), 0, "-1p0", false}, {of(0.75), 1, "1p-1", false}, {of(-0.75), 1, "-1p0", false}, {of(0.75), 2, "3p-2", true}, {of(-0.75), 9, "-3p-2", true},
		{of(7), -1, "3p1", false}, {of(-7), -1, "-1p3", false}, {of(0), 0, "0p0", true}, {of(0), -7, "0p0", true}, {of(8), -3, "1p3", true}, {of(8), -4, "0p0", false}, {of(-8), -4, "-1p4", false},
	} {
		got, exact, err := dyad.Floor(c.a, c.place)
		if dyad.Show(got) != c.want || exact != c.exact || err != api.OK {
			t.Errorf("Floor(%s, %d) = %s, %v, %v", brief(c.a), c.place, dyad.Show(got), exact, err)
		}
	}
}

func TestD3Many(t *testing.T) {
	r := numbers{4}
	for i := range 3000 {
		bits, exp := 1+i%260, i%120
		a, b := r.num(bits, exp), r.num(1+r.below(bits), exp)
		place := r.below(500) - 250
		checkFloor(t, a, place)
		checkQuo(t, a, b, place)
		checkQuo(t, ofBig(new(big.Int).Mul(toBig(a), toBig(b)), a.E+b.E), b, place)
		checkQuo(t, bigSum(ofBig(new(big.Int).Mul(toBig(a), toBig(b)), a.E+b.E), minus(pow(a.E+b.E))), b, place)
		a.Neg = false
		checkRoot(t, a, place)
		square := ofBig(new(big.Int).Mul(toBig(a), toBig(a)), 2*a.E)
		checkRoot(t, square, place)
		checkRoot(t, bigSum(square, pow(square.E)), place)
		checkRoot(t, bigSum(square, minus(pow(square.E))), place)
	}
}

// TestD3Digits: dividends near multiples of the divisor, with digits 0, 1, 2^31 and 2^32 - 1: where a guessed digit is too great.
func TestD3Digits(t *testing.T) {
	digits := []uint32{0, 1, 1<<31 - 1, 1 << 31, 1<<31 + 1, 1<<32 - 2, 1<<32 - 1}
	r := numbers{5}
	some := func(n int) *big.Int {
		m := new(big.Int)
		for range n {
			m.Or(m.Lsh(m, 32), big.NewInt(int64(digits[r.below(len(digits))])))
		}
		return m
	}
	for range 20000 {
		b := some(1 + r.below(4))
		if b.Sign() == 0 {
			continue
		}
		a := new(big.Int).Mul(b, some(1+r.below(4)))
		a.Add(a, some(r.below(5)))
		a.Sub(a, big.NewInt(int64(r.below(3))))
		checkQuo(t, ofBig(a, 0), ofBig(b, 0), 0)
		if a.Sign() >= 0 {
			checkRoot(t, ofBig(a, 0), 0)
		}
	}
}

// TestD3Small: all small whole numbers, by every small place.
func TestD3Small(t *testing.T) {
	for n := range 300 {
		for place := -5; place <= 5; place++ {
			checkRoot(t, dyad.Whole(n), place)
			checkFloor(t, dyad.Whole(n-150), place)
			for d := -9; d <= 9; d++ {
				if d != 0 {
					checkQuo(t, dyad.Whole(n-150), dyad.Whole(d), place)
				}
			}
		}
	}
}

func TestD3Edges(t *testing.T) {
	places := []int{0, maxBits, -maxBits, 40}
	list := []dyad.Num{pow(0), ones(2, 0), pow(maxExp), pow(-maxExp), ones(maxBits, maxExp), ones(maxBits, -maxExp), gap(maxBits-1, -30000)}
	for _, place := range places {
		for _, a := range edges() {
			checkFloor(t, a, place)
			if !a.Neg {
				checkRoot(t, a, place)
			}
			for i, b := range list {
				if i%2 == 1 { // with a of either sign
					b = minus(b)
				}
				checkQuo(t, a, b, place)
			}
		}
	}
	// Answers with one binary digit, though 65,537 and more stand ahead of the cut.
	checkQuo(t, gap(maxBits-1, 0), pow(maxBits-1), maxBits-2)
	checkQuo(t, gap(maxBits-1, 0), gap(maxBits-2, 0), maxBits)
	checkQuo(t, ones(maxBits, 0), ones(maxBits-1, 0), maxBits)
	checkRoot(t, gap(maxBits-1, 0), maxBits/2)
	checkRoot(t, gap(maxBits-2, 2-maxBits), maxBits-3)
	checkFloor(t, minus(ones(maxBits, maxExp-1)), -maxExp)
	checkFloor(t, minus(ones(2, maxExp-1)), -maxExp)
}

func TestD3Errors(t *testing.T) {
	good := []dyad.Num{{}, pow(0), minus(pow(0))}
	want := func(what string, got dyad.Num, exact bool, err, want api.Errno) {
		t.Helper()
		if exact {
			t.Errorf("%s: true beside an error", what)
		}
		wantErr(t, what, got, err, want)
	}
	for _, a := range good {
		for _, place := range wrongPlaces() {
			got, exact, err := dyad.Floor(a, place)
			want("Floor", got, exact, err, api.ErrArg)
			got, exact, err = dyad.Root(a, place)
			want("Root", got, exact, err, api.ErrArg)
			for _, b := range good {
				got, exact, err = dyad.Quo(a, b, place)
				want("Quo", got, exact, err, api.ErrArg)
			}
		}
		for _, place := range []int{0, maxBits, -maxBits} {
			got, exact, err := dyad.Quo(a, dyad.Num{}, place)
			want("Quo", got, exact, err, api.ErrZero)
		}
		for _, w := range wrongNums() {
			got, exact, err := dyad.Floor(w, 0)
			want("Floor", got, exact, err, api.ErrArg)
			got, exact, err = dyad.Root(w, 0)
			want("Root", got, exact, err, api.ErrArg)
			got, exact, err = dyad.Quo(w, a, 0)
			want("Quo", got, exact, err, api.ErrArg)
			got, exact, err = dyad.Quo(a, w, 0)
			want("Quo", got, exact, err, api.ErrArg)
		}
	}
	for _, a := range edges() {
		if a.Neg {
			got, exact, err := dyad.Root(a, 0)
			want("Root", got, exact, err, api.ErrDom)
		}
	}
	// Answers that may not be: E too far, or one digit ahead of the point and MaxBits after it.
	for _, c := range []struct {
		a, b  dyad.Num
		place int
	}{
		{pow(maxExp), pow(-1), 0}, {minus(pow(maxExp)), pow(-1), 5}, {pow(maxExp), pow(-maxExp), -maxBits}, {minus(pow(maxExp)), of(3), maxBits}, {of(4), of(3), maxBits},
	} {
		got, exact, err := dyad.Quo(c.a, c.b, c.place)
		want("Quo", got, exact, err, api.ErrLong)
	}
	got, exact, err := dyad.Root(of(3), maxBits)
	want("Root", got, exact, err, api.ErrLong)
	got, exact, err = dyad.Floor(minus(ones(2, maxExp-1)), -maxExp)
	want("Floor", got, exact, err, api.ErrLong)
}
