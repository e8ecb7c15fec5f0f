package angle_test

import (
	"math"
	"math/big"
	"slices"
	"testing"

	"cusp/angle"
	"cusp/api"
	"cusp/consts"
)

var (
	inf     = math.Inf(1)
	nan     = math.NaN()
	most    = math.MaxFloat64
	minus   = math.Copysign(0, -1)
	nothing = api.Interval{}
)

const least = math.SmallestNonzeroFloat64

// The tests' numbers have prec binary digits, and more where they are near to 0; half of an angle is taken so many times.
const (
	prec   = 512
	halves = 100
)

func exact(x float64, bits uint) *big.Float { return new(big.Float).SetPrec(bits).SetFloat64(x) }

// rootOf is the square root of a and the square of b.
func rootOf(a, b *big.Float) *big.Float {
	square := new(big.Float).Mul(b, b)
	return square.Sqrt(square.Add(square, a))
}

// angleOf is by the tangents of halves: another way than the package's. y is not 0.
func angleOf(z complex128) *big.Float {
	_, first := math.Frexp(real(z))
	_, second := math.Frexp(imag(z))
	bits := uint(prec)
	if real(z) > 0 {
		bits += uint(2 * max(0, first-second)) // of an angle near 0 the square counts beside 1
	}
	x, y, one := exact(real(z), bits), exact(imag(z), bits), exact(1, bits)
	size := rootOf(new(big.Float).Mul(x, x), y)
	t := new(big.Float)
	if x.Sign() < 0 {
		t.Quo(size.Sub(size, x), y)
	} else {
		t.Quo(y, size.Add(size, x))
	}
	for range halves {
		below := rootOf(one, t)
		t.Quo(t, below.Add(below, one))
	}
	// What the terms leave out is less than 2^-700 of it.
	return t.SetMantExp(series(t, -1, 3, 1, 5, -1, 7), halves+1)
}

// arcsineOf is by the sines of halves.
func arcsineOf(x float64) *big.Float {
	_, e := math.Frexp(x)
	bits := uint(prec + 2*max(0, -e))
	s, one := exact(x, bits), exact(1, bits)
	for range halves {
		cosine := new(big.Float).Mul(s, s)
		cosine.Sqrt(cosine.Sub(one, cosine))
		cosine.Add(cosine, one)
		s.Quo(s, cosine.Sqrt(cosine.Add(cosine, cosine)))
	}
	return s.SetMantExp(series(s, 1, 6, 3, 40, 15, 336), halves)
}

// series is t and t^3 times the first number over the second, t^5 times the third one over the fourth, and so on.
func series(t *big.Float, terms ...float64) *big.Float {
	sum, power := new(big.Float).Copy(t), new(big.Float).Copy(t)
	for i := 0; i < len(terms); i += 2 {
		power.Mul(power.Mul(power, t), t)
		term := new(big.Float).Mul(power, exact(terms[i], t.Prec()))
		sum.Add(sum, term.Quo(term, exact(terms[i+1], t.Prec())))
	}
	return sum
}

func arctangentOf(x float64) *big.Float { return angleOf(complex(1, x)) }

// tangentOf is by Lambert's continued fraction, x / (1 - x^2 / (3 - x^2 / (5 - ..))), for x from -4 to 4.
func tangentOf(x float64) *big.Float {
	y := exact(x, prec)
	square, below := new(big.Float).Mul(y, y), exact(201, prec)
	for n := 199.0; n > 0; n -= 2 {
		below.Sub(exact(n, prec), below.Quo(square, below))
	}
	return below.Quo(y, below)
}

// tightest is the least interval that holds a number.
func tightest(x *big.Float) api.Interval {
	near, far := x.Float64()
	lo, hi := near, near
	switch far {
	case big.Below:
		hi = math.Nextafter(near, inf)
	case big.Above:
		lo = math.Nextafter(near, -inf)
	}
	return api.Interval{Lo: lo + 0, Hi: hi + 0} // -0 + 0 is +0
}

func same(a, b api.Interval) bool {
	return math.Float64bits(a.Lo) == math.Float64bits(b.Lo) && math.Float64bits(a.Hi) == math.Float64bits(b.Hi)
}

// next is the interval from a float to its neighbour above.
func next(lo float64) api.Interval { return api.Interval{Lo: lo, Hi: math.Nextafter(lo, inf)} }

// turned is an interval turned round.
func turned(s api.Interval) api.Interval { return api.Interval{Lo: 0 - s.Hi, Hi: 0 - s.Lo} }

// known are the least intervals of pi and its half.
func known(kind int) api.Interval {
	s, _ := consts.Tight(kind)
	return s
}

// function is one of a float, with the number that it holds, by the tests' own way, and the greatest magnitude where it is.
type function struct {
	name string
	call func(float64) (api.Interval, api.Errno)
	want func(float64) *big.Float
	edge float64
}

func functions() []function {
	return []function{{"Atan", angle.Atan, arctangentOf, most}, {"Asin", angle.Asin, arcsineOf, 1}}
}

func (f function) check(t *testing.T, x float64, want api.Interval) {
	t.Helper()
	if got, err := f.call(x); !same(got, want) || err != api.OK {
		t.Errorf("%s(%x) = %x, %v, want %x", f.name, x, got, err, want)
	}
}

// asked is what a function answers where it has no error.
func (f function) asked(t *testing.T, x float64) api.Interval {
	t.Helper()
	s, err := f.call(x)
	if err != api.OK {
		t.Errorf("%s(%x): %v", f.name, x, err)
	}
	return s
}

// list are floats where the function is.
func (f function) list(kinds ...func() []float64) []float64 {
	var list []float64
	for _, kind := range kinds {
		for _, x := range kind() {
			if math.Abs(x) <= f.edge {
				list = append(list, x)
			}
		}
	}
	return list
}

func checkArg(t *testing.T, z complex128, want api.Interval) {
	t.Helper()
	if got, err := angle.Arg(z); !same(got, want) || err != api.OK {
		t.Errorf("Arg(%x) = %x, %v, want %x", z, got, err, want)
	}
}

// argued is what Arg answers where it has no error.
func argued(t *testing.T, z complex128) api.Interval {
	t.Helper()
	s, err := angle.Arg(z)
	if err != api.OK {
		t.Errorf("Arg(%x): %v", z, err)
	}
	return s
}

// numbers makes numbers by a rule.
type numbers struct{ seed uint64 }

func (r *numbers) word() uint64 {
	r.seed = r.seed*6364136223846793005 + 1442695040888963407
	return r.seed>>32 ^ r.seed<<32
}

// float is one of either sign with a magnitude from 2^low to 2^high.
func (r *numbers) float(low, high int) float64 {
	e := low + int(r.word()%uint64(high-low))
	return math.Ldexp(1+float64(r.word()>>12)/(1<<52), e) * float64(1-2*int(r.word()>>63))
}

// around are a float and those beside it, of both signs.
func around(x float64) []float64 {
	up, down := math.Nextafter(x, inf), math.Nextafter(x, -inf)
	return []float64{x, up, down, -x, -up, -down}
}

// edges are where what is answered, or how it is found, changes its kind: about powers of two, and 1; about small numbers; where floats end.
func edges() []float64 {
	list := []float64{least, -least, 3 * least, -3 * least, most, -most, math.Nextafter(most, 0)}
	list = append(list, around(math.Sqrt(0.5))...)
	list = append(list, around(1/math.Sqrt(5))...) // a sine with the tangent 1/2
	for e := -1073; e <= 1023; e++ {
		if e > -60 && e < 60 || e%60 == 0 || e < -1070 || e > 1020 {
			list = append(list, around(math.Ldexp(1, e))...)
		}
	}
	for m := 1.0; m < 2; m += 0x1p-3 { // about where digits are needed
		list = append(list, around(m*0x1p-26)...)
		list = append(list, around(m*0x1p-27)...)
		list = append(list, around(m*0x1p-53)...)
		list = append(list, around(m*0x1p-54)...)
	}
	return list
}

// hard are numbers of which a function lies near to a float.
func hard() []float64 {
	var list []float64
	for m := 1.0; m < 40; m++ {
		list = append(list, m*0x1p-27, -m*0x1p-27, m*0x1p-20, -m*0x1p-18, 1-m*0x1p-53, -1+m*0x1p-53, 1+m*0x1p-52)
	}
	for m := 1; m < 50; m++ {
		x, _ := tangentOf(float64(m) / 32).Float64()
		list = append(list, around(x)...)
		list = append(list, around(math.Sin(float64(m)/32))...)
	}
	return list
}

// ordinary are numbers of all sizes.
func ordinary() []float64 {
	var list []float64
	r := numbers{1}
	for range 150 {
		list = append(list, r.float(-8, 4), r.float(-64, 0), r.float(0, 64), r.float(-1074, 1024), r.float(-27, 0), r.float(-2, 0), r.float(-1, 2))
	}
	for n := -40.0; n < 80; n++ {
		if n != 0 {
			list = append(list, n, n/8, n/10, n/100)
		}
	}
	return list
}

// all are floats of every kind, without 0.
func all() []float64 { return slices.Concat(edges(), hard(), ordinary()) }

// TestReference: the numbers of the tests begin as those that are known do.
func TestReference(t *testing.T) {
	const (
		pi      = "3.14159265358979323846264338327950288419716939937510582097494459230781640628620899862803482534211706798214808651"
		half    = "1.57079632679489661923132169163975144209858469968755291048747229615390820314310449931401741267105853399107404326"
		quarter = "0.785398163397448309615660845819875721049292349843776455243736148076954101571552249657008706335529266995537021628320576661773461152387645557931339852032"
		sixth   = "0.523598775598298873077107230546583814032861566562517636829157432051302734381034833104672470890352844663691347752213717774515640768258430371954226568021"
	)
	for _, row := range []struct {
		got  *big.Float
		text string
	}{
		{arctangentOf(1), quarter}, {arctangentOf(-1), "-" + quarter}, {angleOf(1i), half}, {angleOf(-1i), "-" + half}, {angleOf(complex(-1, 1e-200)), pi}, {angleOf(complex(-1, -1e-200)), "-" + pi},
		{arcsineOf(1), half}, {arcsineOf(-1), "-" + half}, {arcsineOf(0.5), sixth}, {angleOf(3 + 3i), quarter},
		{arctangentOf(0.5), "0.463647609000806116214256231461214402028537054286120263810933088720197864165741705300600283984887892556529852251190837513505818181625011155471530569944105620719"},
	} {
		want, _, _ := big.ParseFloat(row.text, 10, prec, big.ToNearestEven)
		if far := want.Sub(want, row.got); far.Sign() != 0 && far.MantExp(nil) > -320 {
			t.Errorf("%.90f, want %s", row.got, row.text)
		}
	}
	// By another quarter: three quarters of pi.
	sum := new(big.Float).Add(angleOf(1i), arctangentOf(1))
	if far := sum.Sub(sum, angleOf(-2+2i)); far.Sign() != 0 && far.MantExp(nil) > -490 {
		t.Errorf("three quarters of pi are off by 2^%d", far.MantExp(nil))
	}
	// By what a tangent of twice a number is.
	for _, x := range []float64{0.3, 1, 1.5, -2} {
		once, twice, one := tangentOf(x), tangentOf(2*x), exact(1, prec)
		want := one.Quo(new(big.Float).Add(once, once), one.Sub(one, new(big.Float).Mul(once, once)))
		if far := want.Sub(want, twice); far.Sign() != 0 && far.MantExp(nil) > -480 {
			t.Errorf("the tangent of twice %v is off by 2^%d", x, far.MantExp(nil))
		}
	}
}
