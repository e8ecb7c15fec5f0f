package dyad_test

import (
	"math"
	"math/big"
	"slices"
	"testing"

	"cusp/api"
	"cusp/dyad"
)

func TestD1Valid(t *testing.T) {
	for _, a := range edges() {
		if !dyad.Valid(a) {
			t.Errorf("Valid(%s) = false", brief(a))
		}
	}
	for _, a := range wrongNums() {
		if dyad.Valid(a) {
			t.Errorf("Valid(%v) = true", brief(a))
		}
	}
	if dyad.MaxBits != 65536 || dyad.MaxExp != 65536 {
		t.Error("limits:", dyad.MaxBits, dyad.MaxExp)
	}
}

func TestD1Of(t *testing.T) {
	for _, c := range []struct {
		f    float64
		want string
	}{
		{0, "0p0"}, {minusZero, "0p0"}, {0.75, "3p-2"}, {-0.75, "-3p-2"}, {1, "1p0"}, {6, "3p1"},
		{0.1, "ccccccccccccdp-55"}, {least, "1p-1074"}, {-least, "-1p-1074"}, {3 * least, "3p-1074"},
		{0x1p-1022 - least, "fffffffffffffp-1074"}, {greatest, "1fffffffffffffp971"}, {-greatest, "-1fffffffffffffp971"}, {0x1p1023, "1p1023"},
	} {
		a, err := dyad.Of(c.f)
		if err != api.OK || dyad.Show(a) != c.want || !dyad.Valid(a) {
			t.Errorf("Of(%x) = %s, %v, want %s", c.f, dyad.Show(a), err, c.want)
		}
	}
	for _, c := range []struct {
		f    float64
		want api.Errno
	}{
		{math.NaN(), api.ErrNaN}, {math.Float64frombits(0xFFF0000000000001), api.ErrNaN}, {inf, api.ErrInf}, {-inf, api.ErrInf},
	} {
		a, err := dyad.Of(c.f)
		wantErr(t, "Of", a, err, c.want)
	}
}

func TestD1Whole(t *testing.T) {
	list := []int{0, 1, -1, 2, -12, 12, math.MaxInt, math.MinInt, math.MinInt + 1, math.MaxInt32, math.MinInt32, 1 << 32, 1<<32 + 1, -1 << 32, -1<<33 - 1}
	r := numbers{1}
	for range 200 {
		list = append(list, int(r.word())<<32|int(r.word()))
	}
	for _, n := range list {
		wantNum(t, "Whole", dyad.Whole(n), api.OK, ofBig(big.NewInt(int64(n)), 0))
	}
}

func TestD1Make(t *testing.T) {
	for _, c := range []struct {
		neg  bool
		m    []uint32
		e    int
		want dyad.Num
	}{
		{false, []uint32{3}, -2, of(0.75)},
		{true, []uint32{3}, -2, of(-0.75)},
		{false, []uint32{12}, 0, of(12)},
		{false, []uint32{0, 1}, 0, pow(32)},
		{true, []uint32{0, 0, 6, 0, 0}, -64, minus(of(6))},
		{false, []uint32{1 << 31, 1}, 1, ofBig(big.NewInt(3), 32)},
		// Noughts make nought, with no sign, whatever e is.
		{true, nil, 5, dyad.Num{}}, {true, []uint32{}, 0, dyad.Num{}}, {true, []uint32{0}, math.MaxInt, dyad.Num{}}, {false, []uint32{0, 0, 0}, math.MinInt, dyad.Num{}}, {true, make([]uint32, 5000), maxExp + 1, dyad.Num{}},
		// E at its bounds, reached from far by noughts at the low end.
		{false, []uint32{1}, maxExp, pow(maxExp)}, {false, []uint32{2}, maxExp - 1, pow(maxExp)}, {false, []uint32{1}, -maxExp, pow(-maxExp)}, {false, []uint32{2}, -maxExp - 1, pow(-maxExp)},
		{true, []uint32{0, 1}, maxExp - 32, minus(pow(maxExp))}, {true, []uint32{0, 1 << 31}, -maxExp - 63, minus(pow(-maxExp))},
		{false, append(make([]uint32, 4096), 1), -maxExp - 131072, pow(-maxExp)}, {false, append(make([]uint32, 4096), 1, 0, 0), -maxExp, pow(maxExp)},
		// MaxBits digits, with noughts beside them.
		{false, slices.Repeat([]uint32{math.MaxUint32}, 2048), 0, ones(maxBits, 0)},
		{false, slices.Concat([]uint32{0}, slices.Repeat([]uint32{math.MaxUint32}, 2048), []uint32{0}), -32, ones(maxBits, 0)},
		{false, slices.Concat([]uint32{1 << 31}, slices.Repeat([]uint32{math.MaxUint32}, 2047), []uint32{1<<31 - 1}), -31, ones(maxBits, 0)},
	} {
		a, err := dyad.Make(c.neg, c.m, c.e)
		wantNum(t, "Make", a, err, c.want)
	}
	for _, c := range []struct {
		m []uint32
		e int
	}{
		{[]uint32{1}, maxExp + 1}, {[]uint32{2}, maxExp}, {[]uint32{1}, -maxExp - 1}, {[]uint32{2}, -maxExp - 2}, {[]uint32{0, 1}, maxExp - 31}, {[]uint32{0, 1}, -maxExp - 33},
		{[]uint32{1}, math.MaxInt}, {[]uint32{1}, math.MinInt}, {[]uint32{1 << 31}, math.MaxInt}, {[]uint32{0, 0, 1}, math.MaxInt - 3}, {[]uint32{0, 1 << 31}, math.MinInt},
		{append(slices.Repeat([]uint32{math.MaxUint32}, 2048), 1), 0},
		{slices.Concat([]uint32{1}, make([]uint32, 2047), []uint32{1}), 0},
		{slices.Concat([]uint32{2}, make([]uint32, 2047), []uint32{2}), 0},
	} {
		a, err := dyad.Make(false, c.m, c.e)
		wantErr(t, "Make", a, err, api.ErrLong)
		a, err = dyad.Make(true, c.m, c.e)
		wantErr(t, "Make", a, err, api.ErrLong)
	}
}

func TestD2OneNumber(t *testing.T) {
	list := edges()
	r := numbers{2}
	for range 200 {
		list = append(list, r.num(500, 300))
	}
	for _, a := range list {
		m := toBig(a)
		wantNum(t, "Neg", dyad.Neg(a), api.OK, ofBig(new(big.Int).Neg(m), a.E))
		wantNum(t, "Abs", dyad.Abs(a), api.OK, ofBig(new(big.Int).Abs(m), a.E))
		if got := dyad.Sign(a); got != m.Sign() {
			t.Errorf("Sign(%s) = %d", brief(a), got)
		}
		if got := dyad.Bits(a); got != m.BitLen() {
			t.Errorf("Bits(%s) = %d", brief(a), got)
		}
		if got := dyad.Top(a); got != m.BitLen()+a.E {
			t.Errorf("Top(%s) = %d", brief(a), got)
		}
	}
	if a := of(0.75); dyad.Bits(a) != 2 || dyad.Top(a) != 0 || dyad.Top(pow(0)) != 1 || dyad.Top(dyad.Num{}) != 0 {
		t.Error("Bits and Top of 3/4:", dyad.Bits(a), dyad.Top(a))
	}
}

func TestD2Wrong(t *testing.T) {
	for _, w := range wrongNums() {
		wantNum(t, "Neg", dyad.Neg(w), api.OK, dyad.Num{})
		wantNum(t, "Abs", dyad.Abs(w), api.OK, dyad.Num{})
		if dyad.Sign(w) != 0 || dyad.Bits(w) != 0 || dyad.Top(w) != 0 || dyad.Show(w) != "" {
			t.Errorf("%s: %d, %d, %d, %q", brief(w), dyad.Sign(w), dyad.Bits(w), dyad.Top(w), dyad.Show(w))
		}
		for _, k := range []int{0, -1, math.MaxInt, math.MinInt} {
			a, err := dyad.Shift(w, k)
			wantErr(t, "Shift", a, err, api.ErrArg)
		}
		for _, b := range []dyad.Num{{}, pow(0), minus(pow(3)), ones(maxBits, maxExp), w} {
			if dyad.Cmp(w, b) != 0 || dyad.Cmp(b, w) != 0 {
				t.Errorf("Cmp(%s, %s) = %d, %d", brief(w), brief(b), dyad.Cmp(w, b), dyad.Cmp(b, w))
			}
			for name, call := range map[string]func(a, b dyad.Num) (dyad.Num, api.Errno){"Add": dyad.Add, "Sub": dyad.Sub, "Mul": dyad.Mul} {
				a, err := call(w, b)
				wantErr(t, name, a, err, api.ErrArg)
				a, err = call(b, w)
				wantErr(t, name, a, err, api.ErrArg)
			}
		}
	}
}

// bigSum is a + b, in its one form.
func bigSum(a, b dyad.Num) dyad.Num {
	e := min(a.E, b.E)
	m := new(big.Int).Lsh(toBig(a), uint(a.E-e))
	return ofBig(m.Add(m, new(big.Int).Lsh(toBig(b), uint(b.E-e))), e)
}

// wantExact holds an answer against the number that it must be, if that may be.
func wantExact(t *testing.T, what string, got dyad.Num, err api.Errno, want dyad.Num) {
	t.Helper()
	if !dyad.Valid(want) {
		wantErr(t, what, got, err, api.ErrLong)
		return
	}
	wantNum(t, what, got, err, want)
}

func checkPair(t *testing.T, a, b dyad.Num) {
	t.Helper()
	got, err := dyad.Add(a, b)
	wantExact(t, "Add "+brief(a)+" "+brief(b), got, err, bigSum(a, b))
	got, err = dyad.Sub(a, b)
	less := bigSum(a, minus(b))
	wantExact(t, "Sub "+brief(a)+" "+brief(b), got, err, less)
	got, err = dyad.Mul(a, b)
	wantExact(t, "Mul "+brief(a)+" "+brief(b), got, err, ofBig(new(big.Int).Mul(toBig(a), toBig(b)), a.E+b.E))
	if got := dyad.Cmp(a, b); got != toBig(less).Sign() {
		t.Errorf("Cmp(%s, %s) = %d", brief(a), brief(b), got)
	}
}

func TestD2TwoNumbers(t *testing.T) {
	r := numbers{3}
	for i := range 3000 {
		bits, exp := 1+i%200, i%150
		a, b := r.num(bits, exp), r.num(bits, exp)
		checkPair(t, a, b)
		checkPair(t, a, a)
		checkPair(t, a, minus(a))
		checkPair(t, a, bigSum(a, pow(b.E)))
	}
	for range 30 {
		checkPair(t, r.num(40000, 25000), r.num(40000, 25000))
	}
}

func TestD2Edges(t *testing.T) {
	list := edges()
	for _, a := range list {
		for _, b := range list {
			checkPair(t, a, b)
		}
	}
	// Sums with MaxBits digits and with one more; products likewise; E that goes too far.
	checkPair(t, pow(maxBits-1), pow(0))
	checkPair(t, pow(maxBits), pow(0))
	checkPair(t, ones(maxBits, 0), pow(0))
	checkPair(t, ones(maxBits, 0), pow(1))
	checkPair(t, ones(maxBits-1, 1), pow(0))
	checkPair(t, ones(maxBits-1, 1), ones(maxBits, 0))
	checkPair(t, ones(maxBits/2, 0), ones(maxBits/2, 7))
	checkPair(t, ones(maxBits/2, 0), ones(maxBits/2+1, 0))
	checkPair(t, gap(maxBits/2, 0), gap(maxBits/2, 0))
	checkPair(t, gap(maxBits/2-1, 0), gap(maxBits/2, 0))
	checkPair(t, pow(maxExp), pow(maxExp))
	checkPair(t, pow(maxExp), minus(pow(maxExp-1)))
	checkPair(t, pow(maxExp-5), pow(5))
	checkPair(t, pow(maxExp-5), pow(6))
	checkPair(t, pow(-maxExp), pow(-1))
	checkPair(t, pow(-maxExp), pow(1))
	checkPair(t, pow(-maxExp+1), minus(pow(-1)))
}

func TestD2Shift(t *testing.T) {
	shifts := []int{0, 1, -1, 31, -32, 1000, maxExp, -maxExp, maxExp + 1, -maxExp - 1, 2 * maxExp, -2 * maxExp, 2*maxExp + 1, -2*maxExp - 1, math.MaxInt, math.MinInt, math.MaxInt - maxExp, math.MinInt + maxExp}
	for _, a := range edges() {
		for _, k := range shifts {
			got, err := dyad.Shift(a, k)
			want := dyad.Num{}
			if len(a.M) > 0 {
				far := min(max(k, -4*maxExp), 4*maxExp)
				want = ofBig(toBig(a), a.E+far)
			}
			wantExact(t, "Shift "+brief(a), got, err, want)
		}
	}
}
