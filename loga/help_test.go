package loga_test

import (
	"math"
	"math/big"
	"testing"

	"cusp/api"
	"cusp/expo"
	"cusp/loga"
)

var (
	inf     = math.Inf(1)
	nan     = math.NaN()
	most    = math.MaxFloat64
	nothing = api.Interval{}
)

const least = math.SmallestNonzeroFloat64

// The tests' numbers have prec binary digits, where they are not near to 1. As they come, sums of squares too, they are exact.
const (
	prec      = 512
	exactPrec = 4400
)

func exact(x float64) *big.Float { return new(big.Float).SetPrec(exactPrec).SetFloat64(x) }

// roots is how many square roots are taken one of the other.
const roots = 100

// log is by square roots: what is left of r - 1/r after many of them is nearly twice the logarithm, halved as many times. That is another way than the package's. (Of a logarithm t it is off by t^2 / 2^(2*roots) / 6 of it.)
func log(x *big.Float) *big.Float {
	r := new(big.Float).Copy(x)
	for range roots {
		r.Sqrt(r)
	}
	inverse := new(big.Float).SetPrec(x.Prec()).Quo(big.NewFloat(1), r)
	r.Sub(r, inverse)
	return r.SetMantExp(r, roots-1)
}

// short is an exact x with as many digits as it needs: the more, the nearer it is to 1.
func short(x *big.Float) *big.Float {
	off := new(big.Float).Sub(x, exact(1))
	return new(big.Float).SetPrec(uint(prec + 2*max(0, -off.MantExp(nil)))).Set(x)
}

func logOf(x float64) *big.Float { return log(short(exact(x))) }

func logToTwo(x float64) *big.Float { return new(big.Float).Quo(logOf(x), logOf(2)) }

func logOfOneAnd(x float64) *big.Float { return log(short(exact(1).Add(exact(1), exact(x)))) }

func logOfAbs(z complex128) *big.Float {
	x, y := exact(real(z)), exact(imag(z))
	x.Mul(x, x)
	t := log(short(x.Add(x, y.Mul(y, y))))
	return t.SetMantExp(t, -1)
}

// tightest is the least interval that holds a number.
func tightest(x *big.Float) api.Interval {
	near, far := x.Float64()
	lo, hi := near, near
	switch far {
	case big.Below:
		hi = math.Nextafter(near, inf)
	case big.Above:
		lo = math.Nextafter(near, -inf)
	}
	return api.Interval{Lo: lo + 0, Hi: hi + 0} // -0 + 0 is +0
}

func same(a, b api.Interval) bool {
	return math.Float64bits(a.Lo) == math.Float64bits(b.Lo) && math.Float64bits(a.Hi) == math.Float64bits(b.Hi)
}

// next is the interval from a float to its neighbour above.
func next(lo float64) api.Interval { return api.Interval{Lo: lo, Hi: math.Nextafter(lo, inf)} }

// function is one of a float, with the number that it holds, by the tests' own way, and the greatest float below all where it is.
type function struct {
	name string
	call func(float64) (api.Interval, api.Errno)
	want func(float64) *big.Float
	edge float64
}

func functions() []function {
	return []function{
		{"Log", loga.Log, logOf, 0},
		{"Log1p", loga.Log1p, logOfOneAnd, -1},
		{"Log2", loga.Log2, logToTwo, 0},
	}
}

func (f function) check(t *testing.T, x float64, want api.Interval) {
	t.Helper()
	if got, err := f.call(x); !same(got, want) || err != api.OK {
		t.Errorf("%s(%x) = %x, %v, want %x", f.name, x, got, err, want)
	}
}

// isFloat tells whether a function of x is a float.
func (f function) isFloat(x float64) bool {
	switch f.name {
	case "Log":
		return x == 1
	case "Log1p":
		return x == 0
	}
	part, _ := math.Frexp(x)
	return part == 0.5
}

// list are floats where the function is.
func (f function) list(kinds ...func() []float64) []float64 {
	var list []float64
	for _, kind := range kinds {
		for _, x := range kind() {
			if x > f.edge {
				list = append(list, x)
			}
		}
	}
	return list
}

func checkAbs(t *testing.T, z complex128, want api.Interval) {
	t.Helper()
	if got, err := loga.Abs(z); !same(got, want) || err != api.OK {
		t.Errorf("Abs(%x) = %x, %v, want %x", z, got, err, want)
	}
}

// numbers makes numbers by a rule.
type numbers struct{ seed uint64 }

func (r *numbers) word() uint64 {
	r.seed = r.seed*6364136223846793005 + 1442695040888963407
	return r.seed>>32 ^ r.seed<<32
}

// float is one of either sign with a magnitude from 2^low to 2^high.
func (r *numbers) float(low, high int) float64 {
	e := low + int(r.word()%uint64(high-low))
	return math.Ldexp(1+float64(r.word()>>12)/(1<<52), e) * float64(1-2*int(r.word()>>63))
}

// around are a float and those beside it.
func around(x float64) []float64 {
	return []float64{x, math.Nextafter(x, inf), math.Nextafter(x, -inf)}
}

// edges are where what is answered, or how it is found, changes its kind: beside powers of two, and numbers between them; where Log1p needs no digits; where floats end.
func edges() []float64 {
	list := []float64{least, 2 * least, 3 * least, most}
	for e := -1074; e <= 1023; e++ {
		if e%20 == 0 || e < -1060 || e > 1015 || e > -30 && e < 30 || e > -57 && e < -50 {
			for _, m := range []float64{1, 0.75, 1.5, 4.0 / 3} {
				list = append(list, around(math.Ldexp(m, e))...)
				list = append(list, around(-math.Ldexp(m, e))...)
			}
		}
	}
	return list
}

// hard are numbers of which a function lies very near to a float, or to 0.
func hard() []float64 {
	list := []float64{0x1.62a88613629b6p678} // its logarithm is a float and less than 2^-64 of its last unit
	for m := 1.0; m < 40; m++ {
		list = append(list, 1+m*0x1p-52, 1-m*0x1p-53, m*0x1p-53, -m*0x1p-53, m*0x1p-27, -m*0x1p-27, -1+m*0x1p-53)
		for _, call := range []func(float64) (api.Interval, api.Errno){expo.Exp, expo.Expm1, expo.Exp2} {
			for _, x := range []float64{m * 17, -m * 17, m / 16, -m / 16} {
				s, _ := call(x)
				list = append(list, s.Lo, s.Hi)
			}
		}
	}
	return list
}

// ordinary are numbers of all sizes.
func ordinary() []float64 {
	var list []float64
	r := numbers{1}
	for range 150 {
		list = append(list, r.float(-8, 4), r.float(-64, 0), r.float(0, 64), r.float(-1074, 1024), math.Abs(r.float(-1074, 1024)), math.Abs(r.float(-4, 4)))
	}
	for n := -40.0; n < 80; n++ {
		list = append(list, n, n/8, n/10)
	}
	return list
}

// TestReference: the numbers of the tests begin as those that are known do.
func TestReference(t *testing.T) {
	for x, text := range map[float64]string{
		2: "0.69314718055994530941723212145817656807550013436025525412068", 10: "2.30258509299404568401799145468436420760110148862877297603333",
		0.5: "-0.69314718055994530941723212145817656807550013436025525412068", 1: "0",
	} {
		want, _, _ := big.ParseFloat(text, 10, prec, big.ToNearestEven)
		if far := want.Sub(want, logOf(x)); far.Sign() != 0 && far.MantExp(nil) > -190 {
			t.Errorf("of %v it is %.60f", x, logOf(x))
		}
	}
}
