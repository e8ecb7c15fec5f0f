package expo_test

import (
	"math"
	"math/big"
	"sync"
	"testing"

	"cusp/api"
	"cusp/expo"
)

var (
	inf  = math.Inf(1)
	nan  = math.NaN()
	most = math.MaxFloat64
)

const least = math.SmallestNonzeroFloat64

// prec is how many binary digits the numbers of the tests have: enough for the third power of the least float, and for e to the -2048, beside 1.
const prec = 4160

func float(x float64) *big.Float { return new(big.Float).SetPrec(prec).SetFloat64(x) }

func mul(x, y *big.Float) *big.Float { return float(0).Mul(x, y) }

func quo(x, y *big.Float) *big.Float { return float(0).Quo(x, y) }

func add(x, y *big.Float) *big.Float { return float(0).Add(x, y) }

func sub(x, y *big.Float) *big.Float { return float(0).Sub(x, y) }

// eByFractions is by its continued fraction: 2; 1, 2, 1, 1, 4, 1, 1, 6, 1, ..
func eByFractions() *big.Float {
	x := float(1)
	for k := 2000; k > 0; k -= 2 {
		for _, term := range []float64{1, float64(k), 1} {
			x = add(float(term), quo(float(1), x))
		}
	}
	return add(float(2), quo(float(1), x))
}

const (
	mostRoots   = 1074 // a float has as many binary places at most
	mostSquares = 10
)

// ladder holds base to the powers of two: the element at mostRoots+k to 2^k. They are squares and square roots of one another: another way than the package's.
func ladder(base *big.Float) []*big.Float {
	list := make([]*big.Float, mostRoots+mostSquares+1)
	list[mostRoots] = base
	for k := mostRoots - 1; k >= 0; k-- {
		list[k] = float(0).Sqrt(list[k+1])
	}
	for k := mostRoots + 1; k < len(list); k++ {
		list[k] = mul(list[k-1], list[k-1])
	}
	return list
}

var (
	ladderOfE   = sync.OnceValue(func() []*big.Float { return ladder(eByFractions()) })
	ladderOfTwo = sync.OnceValue(func() []*big.Float { return ladder(float(2)) })
)

// raised is the base of a ladder to the x, of a magnitude below 2^(mostSquares+1).
func raised(list []*big.Float, x float64) *big.Float {
	out := float(1)
	part, e := math.Frexp(math.Abs(x))
	for m := uint64(part * (1 << 53)); m > 0; m &= m - 1 {
		low := m & -m
		out.Mul(out, list[mostRoots+e-53+int(math.Log2(float64(low)))])
	}
	if x < 0 {
		return quo(float(1), out)
	}
	return out
}

func exp(x float64) *big.Float { return raised(ladderOfE(), x) }

// tightest is the least interval that holds a number.
func tightest(x *big.Float) api.Interval {
	near, far := x.Float64()
	lo, hi := near, near
	switch far {
	case big.Below:
		hi = math.Nextafter(near, inf)
	case big.Above:
		lo = math.Nextafter(near, -inf)
	}
	return api.Interval{Lo: lo + 0, Hi: hi + 0} // -0 + 0 is +0
}

// function is one of the five, with the number that it holds, by the tests' own way.
type function struct {
	name string
	call func(float64) (api.Interval, api.Errno)
	want func(float64) *big.Float
}

func functions() []function {
	return []function{
		{"Exp", expo.Exp, exp},
		{"Expm1", expo.Expm1, func(x float64) *big.Float { return sub(exp(x), float(1)) }},
		{"Exp2", expo.Exp2, func(x float64) *big.Float { return raised(ladderOfTwo(), x) }},
		{"Sinh", expo.Sinh, func(x float64) *big.Float { return quo(sub(exp(x), exp(-x)), float(2)) }},
		{"Cosh", expo.Cosh, func(x float64) *big.Float { return quo(add(exp(x), exp(-x)), float(2)) }},
	}
}

func same(a, b api.Interval) bool {
	return math.Float64bits(a.Lo) == math.Float64bits(b.Lo) && math.Float64bits(a.Hi) == math.Float64bits(b.Hi)
}

func (f function) check(t *testing.T, x float64, want api.Interval) {
	t.Helper()
	if got, err := f.call(x); !same(got, want) || err != api.OK {
		t.Errorf("%s(%x) = %x, %v, want %x", f.name, x, got, err, want)
	}
}

// asked is what a function answers where it has no error.
func (f function) asked(t *testing.T, x float64) api.Interval {
	t.Helper()
	s, err := f.call(x)
	if err != api.OK {
		t.Errorf("%s(%x): %v", f.name, x, err)
	}
	return s
}

// numbers makes numbers by a rule.
type numbers struct{ seed uint64 }

func (r *numbers) word() uint64 {
	r.seed = r.seed*6364136223846793005 + 1442695040888963407
	return r.seed>>32 ^ r.seed<<32
}

// float is one of either sign with a magnitude from 2^low to 2^high.
func (r *numbers) float(low, high int) float64 {
	e := low + int(r.word()%uint64(high-low))
	return math.Ldexp(1+float64(r.word()>>12)/(1<<52), e) * float64(1-2*int(r.word()>>63))
}

// around are a float and those beside it, of both signs.
func around(x float64) []float64 {
	up, down := math.Nextafter(x, inf), math.Nextafter(x, -inf)
	return []float64{x, up, down, -x, -up, -down}
}

// edges are where what is answered changes its kind: about 0 and small numbers, powers of two, and where each function leaves the finite floats, the normal ones, or comes nearest to a number that it never is.
func edges() []float64 {
	list := around(0)
	for e := -1074; e <= 10; e++ {
		if e > -120 || e%50 == 0 || e < -1020 {
			list = append(list, around(math.Ldexp(1, e))...)
		}
	}
	for _, x := range []float64{36.04, 36.7, 37.43, 18.7, 19, 708.3964185322641, 709.0895657128241, 709.782712893384, 710, 710.4758600739439, 744.4400719213812, 745.1332191019411, 746, 1021, 1022, 1023, 1023.5, 1074, 1074.5, 1075, 1076, 1099, 1100, 1101, 1500, 2000} {
		list = append(list, around(x)...)
	}
	return list
}

// hard are numbers of which a function lies very near to a float: 1 + m / 2^52 and the like, or a power of two.
func hard() []float64 {
	var list []float64
	for m := 1.0; m < 60; m++ {
		for e := -56; e <= -46; e += 2 {
			list = append(list, math.Ldexp(m, e), -math.Ldexp(m, e))
		}
		list = append(list, math.Ldexp(m, -26), -math.Ldexp(m, -26), math.Ldexp(m, -18))
	}
	for k := -1080; k < 1030; k += 7 {
		list = append(list, around(float64(k)*math.Ln2)...)
	}
	return list
}

// ordinary are numbers of all sizes that matter.
func ordinary() []float64 {
	var list []float64
	r := numbers{1}
	for range 400 {
		list = append(list, r.float(-8, 4), r.float(-64, 0), r.float(0, 11), r.float(-1074, 11))
	}
	for n := -60.0; n < 60; n++ {
		list = append(list, n, n/8, n/10, n*20)
	}
	return list
}

// TestReference: the numbers of the tests begin as those of the library do.
func TestReference(t *testing.T) {
	for x, text := range map[float64]string{
		1: "2.71828182845904523536028747135266249775724709369995957496696763", 0.5: "1.64872127070012814684865078781416357165377610071014801157507931",
		-1: "0.367879441171442321595523770161460867445811131031767834507836801",
	} {
		want, _, _ := big.ParseFloat(text, 10, prec, big.ToNearestEven)
		if far := sub(want, exp(x)); far.Sign() != 0 && far.MantExp(nil) > -200 {
			t.Errorf("e to the %v is %.70f", x, exp(x))
		}
	}
	// By the series, too.
	for _, x := range []float64{1, 0.1, -3, 20.25, 0x1p-300} {
		total, term := float(1), float(1)
		for n := 1.0; n < 1000; n++ {
			term = quo(mul(term, float(x)), float(n))
			total = add(total, term)
		}
		if far := sub(total, exp(x)); far.Sign() != 0 && far.MantExp(nil) > -4000 {
			t.Errorf("e to the %v is %d binary digits off", x, far.MantExp(nil))
		}
	}
}
