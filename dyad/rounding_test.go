package dyad_test

import (
	"math"
	"math/big"
	"testing"

	"cusp/api"
	"cusp/dyad"
)

// above and below are the floats beside f.
func above(f float64) float64 { return math.Nextafter(f, inf) }
func below(f float64) float64 { return math.Nextafter(f, -inf) }

// roundRat is x rounded down, to the nearest and up.
func roundRat(x *big.Rat) [3]float64 {
	near, _ := x.Float64() // whether that is exact, it tells wrongly far below the least float
	switch {
	case near > greatest:
		return [3]float64{greatest, near, near}
	case near < -greatest:
		return [3]float64{near, near, -greatest}
	}
	switch ratOf(near).Cmp(x) {
	case 1:
		return [3]float64{below(near), near, near}
	case -1:
		return [3]float64{near, near, above(near)}
	}
	return [3]float64{near, near, near}
}

func wantRounds(t *testing.T, what string, call func(mode int) (float64, api.Errno), want [3]float64) {
	t.Helper()
	for i, mode := range modes {
		got, err := call(mode)
		wantFloat(t, what, got, err, want[i])
	}
}

func checkRound(t *testing.T, a dyad.Num) {
	t.Helper()
	wantRounds(t, "Round "+brief(a), func(mode int) (float64, api.Errno) { return dyad.Round(a, mode) }, roundRat(rat(a)))
}

func checkRatio(t *testing.T, a, b dyad.Num) {
	t.Helper()
	x := new(big.Rat).Quo(rat(a), rat(b))
	wantRounds(t, "Ratio "+brief(a)+" "+brief(b), func(mode int) (float64, api.Errno) { return dyad.Ratio(a, b, mode) }, roundRat(x))
}

func checkSqrt(t *testing.T, a dyad.Num) {
	t.Helper()
	wantRounds(t, "Sqrt "+brief(a), func(mode int) (float64, api.Errno) { return dyad.Sqrt(a, mode) }, roundRoot(rat(a)))
}

// roundRoot is the root of x, that is not below 0, rounded down, to the nearest and up.
func roundRoot(x *big.Rat) [3]float64 {
	square := func(f *big.Rat) int { return new(big.Rat).Mul(f, f).Cmp(x) }
	guess, _ := new(big.Float).Sqrt(new(big.Float).SetPrec(100).SetRat(x)).Float64()
	down := min(guess, greatest)
	for square(ratOf(down)) > 0 {
		down = below(down)
	}
	for down < greatest && square(ratOf(above(down))) <= 0 {
		down = above(down)
	}
	if square(ratOf(down)) == 0 {
		return [3]float64{down, down, down}
	}
	up := above(down)
	half := new(big.Rat).Add(ratOf(down), new(big.Rat).Mul(ratOf(down-below(down)), big.NewRat(1, 2)))
	if up != inf {
		half = new(big.Rat).Mul(new(big.Rat).Add(ratOf(down), ratOf(up)), big.NewRat(1, 2))
	}
	near := down
	if s := square(half); s < 0 || s == 0 && math.Float64bits(down)%2 == 1 {
		near = up
	}
	return [3]float64{down, near, up}
}

// roundingEdges are numbers at, halfway between and beside floats: the greatest, the least, and some between; without their signs.
func roundingEdges() []dyad.Num {
	beside := []dyad.Num{}
	for _, f := range []float64{1, 0x1.0000000000001p0, 0x1.fffffffffffffp0, 0.1, 0x1p-1022, 0x1p-1022 - least, 0x1p-1022 + least, 0x1p-1021, least, 2 * least, 3 * least, greatest, below(greatest), 0x1p1023} {
		unit := of(f - below(f))
		half := dyad.Num{M: unit.M, E: unit.E - 1}
		beside = append(beside, of(f), bigSum(of(f), half), bigSum(of(f), minus(half)), bigSum(of(f), unit))
	}
	beside = append(beside, pow(1024), pow(1025), pow(-1075), pow(-1076), pow(-1100), pow(maxExp), pow(-maxExp), ones(maxBits, maxExp), ones(maxBits, -maxExp), gap(maxBits-1, 1-maxBits), ones(maxBits, -maxBits),
		bigSum(pow(1024), minus(pow(970))), bigSum(pow(1024), minus(pow(971))), dyad.Num{})
	var out []dyad.Num
	for _, a := range beside {
		out = append(out, a)
		for _, k := range []int{-1080, -1200, -5000, 900} {
			out = append(out, bigSum(a, pow(k)), bigSum(a, minus(pow(k))))
		}
	}
	var good []dyad.Num
	for _, a := range out {
		if a.Neg = false; dyad.Valid(a) {
			good = append(good, a)
		}
	}
	return good
}

func TestD4RoundWrittenOut(t *testing.T) {
	top := bigSum(pow(1024), minus(pow(970))) // from here on to the infinity
	for _, c := range []struct {
		a              dyad.Num
		down, near, up float64
	}{
		{dyad.Num{}, 0, 0, 0}, {of(0.75), 0.75, 0.75, 0.75}, {of(-6), -6, -6, -6},
		{gap(53, 0), 0x1p53, 0x1p53, 0x1p53 + 2}, {bigSum(pow(53), of(3)), 0x1p53 + 2, 0x1p53 + 4, 0x1p53 + 4}, {minus(gap(53, 0)), -0x1p53 - 2, -0x1p53, -0x1p53},
		{bigSum(gap(53, 0), pow(-60000)), 0x1p53, 0x1p53 + 2, 0x1p53 + 2}, {bigSum(gap(53, 0), minus(pow(-60000))), 0x1p53, 0x1p53, 0x1p53 + 2},
		{pow(1024), greatest, inf, inf}, {minus(pow(1024)), -inf, -inf, -greatest}, {pow(maxExp), greatest, inf, inf},
		{top, greatest, inf, inf}, {minus(top), -inf, -inf, -greatest},
		{bigSum(top, minus(pow(-50000))), greatest, greatest, inf}, {minus(bigSum(top, minus(pow(-50000)))), -inf, -greatest, -greatest},
		{of(greatest), greatest, greatest, greatest}, {bigSum(of(greatest), pow(-60000)), greatest, greatest, inf}, {bigSum(of(-greatest), pow(-60000)), -greatest, -greatest, below(greatest) * -1},
		{pow(-1074), least, least, least}, {pow(-1075), 0, 0, least}, {minus(pow(-1075)), -least, minusZero, minusZero}, {minus(pow(-1100)), -least, minusZero, minusZero}, {pow(-1100), 0, 0, least},
		{bigSum(pow(-1075), pow(-maxExp)), 0, least, least}, {minus(bigSum(pow(-1075), pow(-maxExp))), -least, -least, minusZero}, {pow(-maxExp), 0, 0, least},
		{ofBig(big.NewInt(3), -1075), least, 2 * least, 2 * least}, {ofBig(big.NewInt(5), -1075), 2 * least, 2 * least, 3 * least},
	} {
		wantRounds(t, "Round "+brief(c.a), func(mode int) (float64, api.Errno) { return dyad.Round(c.a, mode) }, [3]float64{c.down, c.near, c.up})
		if len(c.a.M) > 0 {
			wantRounds(t, "Round -"+brief(c.a), func(mode int) (float64, api.Errno) { return dyad.Round(minus(c.a), mode) }, [3]float64{-c.up, -c.near, -c.down})
		}
	}
}

func TestD4P6Round(t *testing.T) {
	for _, a := range roundingEdges() {
		checkRound(t, a)
		checkRound(t, minus(a))
	}
	r := numbers{6}
	for i := range 3000 {
		checkRound(t, r.num(1+i%130, 1200))
	}
}

func TestD4P6Ratio(t *testing.T) {
	for _, a := range roundingEdges() {
		for _, b := range []dyad.Num{pow(0), of(-3), ones(70, 0), gap(200, -100), pow(-900), minus(pow(1000))} {
			checkRatio(t, a, b)
			checkRatio(t, minus(a), b)
			if m := ofBig(new(big.Int).Mul(toBig(a), toBig(b)), a.E+b.E); dyad.Valid(m) { // a comes out
				checkRatio(t, m, b)
			}
		}
	}
	long := []dyad.Num{pow(maxExp), pow(-maxExp), ones(maxBits, maxExp), ones(maxBits, -maxExp), gap(maxBits-1, 0), ones(maxBits, 0), of(3)}
	for _, a := range long {
		for _, b := range long {
			checkRatio(t, a, b)
			checkRatio(t, minus(a), b)
			checkRatio(t, a, minus(b))
		}
	}
	r := numbers{7}
	for i := range 3000 {
		checkRatio(t, r.num(1+i%200, 600), r.num(1+r.below(200), 600))
	}
	for i, mode := range modes {
		got, err := dyad.Ratio(of(1), of(3), mode)
		wantFloat(t, "1/3", got, err, math.Float64frombits([3]uint64{0x3fd5555555555555, 0x3fd5555555555555, 0x3fd5555555555556}[i]))
		for _, b := range []dyad.Num{of(3), of(-3)} {
			got, err = dyad.Ratio(dyad.Num{}, b, mode)
			wantFloat(t, "0/3", got, err, 0)
		}
	}
}

func TestD4P6Sqrt(t *testing.T) {
	for _, a := range roundingEdges() {
		checkSqrt(t, a)
		if s := ofBig(new(big.Int).Mul(toBig(a), toBig(a)), 2*a.E); dyad.Valid(s) { // a comes out
			checkSqrt(t, s)
			for _, k := range []int{s.E, s.E - 300, s.E + 40} {
				for _, b := range []dyad.Num{bigSum(s, pow(k)), bigSum(s, minus(pow(k)))} {
					if dyad.Valid(b) && !b.Neg {
						checkSqrt(t, b)
					}
				}
			}
		}
	}
	r := numbers{8}
	for i := range 3000 {
		checkSqrt(t, r.positive(1+i%200, 2200))
	}
	for n := range 200 {
		checkSqrt(t, dyad.Whole(n))
	}
	for _, mode := range modes {
		got, err := dyad.Sqrt(dyad.Num{}, mode)
		wantFloat(t, "root of 0", got, err, 0)
		got, err = dyad.Sqrt(of(9), mode)
		wantFloat(t, "root of 9", got, err, 3)
	}
}

func TestD4Errors(t *testing.T) {
	good := []dyad.Num{{}, pow(0), minus(pow(0)), ones(maxBits, maxExp)}
	for _, a := range good {
		for _, mode := range wrongModes() {
			got, err := dyad.Round(a, mode)
			wantNoFloat(t, "Round", got, err, api.ErrArg)
			got, err = dyad.Sqrt(a, mode)
			wantNoFloat(t, "Sqrt", got, err, api.ErrArg)
			for _, b := range good {
				got, err = dyad.Ratio(a, b, mode)
				wantNoFloat(t, "Ratio", got, err, api.ErrArg)
			}
		}
		for _, mode := range modes {
			got, err := dyad.Ratio(a, dyad.Num{}, mode)
			wantNoFloat(t, "Ratio", got, err, api.ErrZero)
			got, err = dyad.Sqrt(minus(pow(-maxExp)), mode)
			wantNoFloat(t, "Sqrt", got, err, api.ErrDom)
			for _, w := range wrongNums() {
				got, err = dyad.Round(w, mode)
				wantNoFloat(t, "Round", got, err, api.ErrArg)
				got, err = dyad.Sqrt(w, mode)
				wantNoFloat(t, "Sqrt", got, err, api.ErrArg)
				got, err = dyad.Ratio(a, w, mode)
				wantNoFloat(t, "Ratio", got, err, api.ErrArg)
				got, err = dyad.Ratio(w, a, mode)
				wantNoFloat(t, "Ratio", got, err, api.ErrArg)
				for _, b := range good {
					got, err = dyad.Up(w, a, b)
					wantNoFloat(t, "Up", got, err, api.ErrArg)
					got, err = dyad.Up(a, w, b)
					wantNoFloat(t, "Up", got, err, api.ErrArg)
					got, err = dyad.Up(a, b, w)
					wantNoFloat(t, "Up", got, err, api.ErrArg)
				}
			}
		}
		got, err := dyad.Up(a, minus(pow(-maxExp)), pow(0))
		wantNoFloat(t, "Up", got, err, api.ErrDom)
		got, err = dyad.Up(a, dyad.Num{}, minus(of(3)))
		wantNoFloat(t, "Up", got, err, api.ErrDom)
		got, err = dyad.Up(a, minus(pow(maxExp)), minus(of(3)))
		wantNoFloat(t, "Up", got, err, api.ErrDom)
	}
}
