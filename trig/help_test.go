package trig_test

import (
	"math"
	"math/big"
	"slices"
	"sync"
	"testing"

	"cusp/api"
	"cusp/consts"
	"cusp/trig"
)

var (
	inf     = math.Inf(1)
	nan     = math.NaN()
	most    = math.MaxFloat64
	minus   = math.Copysign(0, -1)
	nothing = api.Interval{}
)

const least = math.SmallestNonzeroFloat64

// nearest is the float that is nearest to a whole number of quarter turns, of those that are not 0.
const nearest = 6381956970095103 * 0x1p797

// The tests' numbers have prec binary digits, and more where they are near to 0; those that quarter turns are counted with have more than floats have places ahead of their point.
const (
	prec     = 512
	longPrec = 2400
)

func long(x float64) *big.Float { return new(big.Float).SetPrec(longPrec).SetFloat64(x) }

// halfPi is by Gauss's, Brent's and Salamin's way: another one than the package's.
var halfPi = sync.OnceValue(func() *big.Float {
	half := func(x *big.Float) *big.Float { return x.SetMantExp(x, -1) }
	a, b, t := long(1), long(0).Sqrt(long(0.5)), long(0.25)
	for k := range 12 {
		next := half(long(0).Add(a, b))
		b = long(0).Sqrt(long(0).Mul(a, b))
		far := a.Sub(a, next)
		far.Mul(far, far)
		t.Sub(t, far.SetMantExp(far, k))
		a = next
	}
	a.Add(a, b)
	a.Mul(a, a)
	return half(half(half(a.Quo(a, t))))
})

// floorOf is the greatest whole number that is not above x.
func floorOf(x *big.Float) *big.Int {
	n, off := x.Int(nil)
	if off == big.Above { // it was cut towards 0
		n.Sub(n, big.NewInt(1))
	}
	return n
}

// quarters is how many quarter turns x has, and add: the whole number that is not above that.
func quarters(x, add float64) *big.Int {
	y := long(0).Quo(long(x), halfPi())
	return floorOf(y.Add(y, long(add)))
}

// restOf is x less the nearest whole number of quarter turns.
func restOf(x float64) *big.Float {
	n := long(0).SetInt(quarters(x, 0.5))
	return n.Sub(long(x), n.Mul(n, halfPi()))
}

// tangentOf is by Lambert's continued fraction, x / (1 - x^2 / (3 - x^2 / (5 - ..))): another way than the package's.
func tangentOf(x *big.Float) *big.Float {
	square := new(big.Float).Mul(x, x)
	below := new(big.Float).SetPrec(x.Prec())
	for n := int64(161); n > 0; n -= 2 {
		term := new(big.Float).SetPrec(x.Prec()).SetInt64(n)
		if below.Sign() != 0 {
			term.Sub(term, below.Quo(square, below))
		}
		below = term
	}
	return below.Quo(x, below)
}

// circle are the sine and the cosine of x, by the tangent of half of the rest.
func circle(x float64) (*big.Float, *big.Float) {
	rest := restOf(x)
	// Of a rest near 0 the square counts beside 1.
	short := new(big.Float).SetPrec(uint(prec + 2*max(0, -rest.MantExp(nil)))).Set(rest)
	t := tangentOf(short.SetMantExp(short, -1))
	one := big.NewFloat(1).SetPrec(t.Prec())
	square := new(big.Float).Mul(t, t)
	above, below := new(big.Float).Add(one, square), new(big.Float).Sub(one, square)
	sine, cosine := t.Quo(t.Add(t, t), above), below.Quo(below, above)
	switch new(big.Int).And(quarters(x, 0.5), big.NewInt(3)).Int64() {
	case 1:
		return cosine, sine.Neg(sine)
	case 2:
		return sine.Neg(sine), cosine.Neg(cosine)
	case 3:
		return cosine.Neg(cosine), sine
	}
	return sine, cosine
}

func sineOf(x float64) *big.Float {
	sine, _ := circle(x)
	return sine
}

func cosineOf(x float64) *big.Float {
	_, cosine := circle(x)
	return cosine
}

func quotientOf(x float64) *big.Float {
	sine, cosine := circle(x)
	return sine.Quo(sine, cosine)
}

// tightest is the least interval that holds a number.
func tightest(x *big.Float) api.Interval {
	near, far := x.Float64()
	lo, hi := near, near
	switch far {
	case big.Below:
		hi = math.Nextafter(near, inf)
	case big.Above:
		lo = math.Nextafter(near, -inf)
	}
	return api.Interval{Lo: lo + 0, Hi: hi + 0} // -0 + 0 is +0
}

func same(a, b api.Interval) bool {
	return math.Float64bits(a.Lo) == math.Float64bits(b.Lo) && math.Float64bits(a.Hi) == math.Float64bits(b.Hi)
}

// next is the interval from a float to its neighbour above.
func next(lo float64) api.Interval { return api.Interval{Lo: lo, Hi: math.Nextafter(lo, inf)} }

func only(x float64) api.Interval { return api.Interval{Lo: x, Hi: x} }

// function is one of a float, with the number that it holds, by the tests' own way.
type function struct {
	name string
	call func(float64) (api.Interval, api.Errno)
	want func(float64) *big.Float
}

func functions() []function {
	return []function{{"Sin", trig.Sin, sineOf}, {"Cos", trig.Cos, cosineOf}, {"Tan", trig.Tan, quotientOf}, {"Rest", trig.Rest, restOf}}
}

func (f function) check(t *testing.T, x float64, want api.Interval) {
	t.Helper()
	if got, err := f.call(x); !same(got, want) || err != api.OK {
		t.Errorf("%s(%x) = %x, %v, want %x", f.name, x, got, err, want)
	}
}

// asked is what a function answers where it has no error.
func (f function) asked(t *testing.T, x float64) api.Interval {
	t.Helper()
	s, err := f.call(x)
	if err != api.OK {
		t.Errorf("%s(%x): %v", f.name, x, err)
	}
	return s
}

// numbers makes numbers by a rule.
type numbers struct{ seed uint64 }

func (r *numbers) word() uint64 {
	r.seed = r.seed*6364136223846793005 + 1442695040888963407
	return r.seed>>32 ^ r.seed<<32
}

// float is one of either sign with a magnitude from 2^low to 2^high.
func (r *numbers) float(low, high int) float64 {
	e := low + int(r.word()%uint64(high-low))
	return math.Ldexp(1+float64(r.word()>>12)/(1<<52), e) * float64(1-2*int(r.word()>>63))
}

// around are a float and those beside it, of both signs.
func around(x float64) []float64 {
	up, down := math.Nextafter(x, inf), math.Nextafter(x, -inf)
	return []float64{x, up, down, -x, -up, -down}
}

// edges are where what is answered, or how it is found, changes its kind: about 0 and small numbers, powers of two, and where floats end.
func edges() []float64 {
	list := []float64{least, -least, 2 * least, -2 * least, 3 * least, most, -most, math.Nextafter(most, 0), 0x1p-1022, math.Nextafter(0x1p-1022, 0)}
	for e := -1073; e <= 1023; e++ {
		if e > -60 && e < 70 || e%60 == 0 || e < -1070 || e > 1020 {
			list = append(list, around(math.Ldexp(1, e))...)
		}
	}
	for m := 1.0; m < 2; m += 0x1p-4 { // about where digits are needed
		list = append(list, around(m*0x1p-26)...)
		list = append(list, around(m*0x1p-27)...)
	}
	return list
}

// turns are the floats on both sides of eighth turns, few and many of them.
func turns() []float64 {
	var list []float64
	for _, n := range []int{1, 2, 3, 4, 5, 6, 7, 8, 9, 10, 11, 12, 13, 14, 15, 16, 17, 100, 710, 1001, 1<<20 + 3, 1<<31 - 1, 1<<40 + 5, 1<<52 + 1, 1<<53 - 1, math.MaxInt, math.MaxInt - 1} {
		for _, k := range []int{n, -n} {
			s, _ := consts.Times(k)
			list = append(list, s.Lo, s.Hi, s.Lo/2, s.Hi/2)
		}
	}
	return list
}

// nearTurns are floats m times 2^e nearer to a whole number of quarter turns than any with a lesser m: by the continued fraction of 2^e over a quarter turn.
func nearTurns(e int) []float64 {
	const scale = longPrec
	a := new(big.Int).Lsh(big.NewInt(1), uint(scale+e))
	unit := new(big.Float).SetMantExp(halfPi(), scale)
	b, _ := unit.Int(nil)
	var list []float64
	before, m := big.NewInt(1), big.NewInt(0)
	for {
		term, left := new(big.Int).DivMod(a, b, new(big.Int))
		a, b = b, left
		before, m = m, before.Add(before, term.Mul(term, m))
		if m.BitLen() > 53 {
			return list
		}
		list = append(list, math.Ldexp(float64(m.Int64()), e))
	}
}

// hard are numbers of which a function lies very near to a float.
func hard() []float64 {
	list := []float64{nearest, -nearest}
	for e := -53; e <= 970; e += 93 {
		list = append(list, nearTurns(e)...)
	}
	for _, x := range nearTurns(797) {
		list = append(list, -x)
	}
	for m := 1.0; m < 40; m++ {
		list = append(list, m*0x1p-27, -m*0x1p-27, m*0x1p-26, m*0x1p-20, -m*0x1p-18)
	}
	return list
}

// ordinary are numbers of all sizes.
func ordinary() []float64 {
	var list []float64
	r := numbers{1}
	for range 150 {
		list = append(list, r.float(-8, 4), r.float(-64, 0), r.float(0, 64), r.float(-1074, 1024), r.float(-27, 1), r.float(900, 1024))
	}
	for n := -40.0; n < 80; n++ {
		if n != 0 {
			list = append(list, n, n/8, n/10, n*1e4)
		}
	}
	return list
}

// all are floats of every kind, without 0.
func all() []float64 { return slices.Concat(edges(), turns(), hard(), ordinary()) }

// TestReference: the numbers of the tests begin as those that are known do.
func TestReference(t *testing.T) {
	for _, row := range []struct {
		got  *big.Float
		text string
	}{
		{halfPi(), "1.57079632679489661923132169163975144209858469968755291048747229615390820314310449931401741267105853399107404326"},
		{sineOf(1), "0.841470984807896506652502321630298999622563060798371065672751709991910404391239668948639743543052695854349"},
		{cosineOf(1), "0.540302305868139717400936607442976603732310420617922227670097255381100394774471764517951856087183089343571"},
		{quotientOf(1), "1.557407724654902230506974807458360173087250772381520038383946605698861397151727289555099965202242983"},
		{restOf(1), "-0.57079632679489661923132169163975144209858469968755291048747229615390820314310449931401741267105853399107404326"}, {restOf(-0.5), "-0.5"}, {sineOf(0), "0"}, {cosineOf(0), "1"},
	} {
		want, _, _ := big.ParseFloat(row.text, 10, prec, big.ToNearestEven)
		if far := want.Sub(want, row.got); far.Sign() != 0 && far.MantExp(nil) > -320 {
			t.Errorf("%.90f, want %s", row.got, row.text)
		}
	}
	if n := quarters(-0.5, 0); n.Int64() != -1 {
		t.Errorf("-0.5 has %d quarter turns", n)
	}
	// By the series, too, of x itself: a way for x of some size that needs no pi.
	for _, x := range []float64{0.3, -2, 7.5, 50, -100} {
		sine, term := long(0), long(x)
		for n := 1.0; n < 900; n += 2 {
			sine.Add(sine, term)
			term.Mul(term.Mul(term, long(x)), long(-x))
			term.Quo(term, long((n+1)*(n+2)))
		}
		if far := sine.Sub(sine, sineOf(x)); far.Sign() != 0 && far.MantExp(nil) > -500 {
			t.Errorf("the sine of %v is off by 2^%d", x, far.MantExp(nil))
		}
	}
}
