package bexp_test

import (
	"math"
	"math/big"
	"testing"

	"cusp/api"
	"cusp/ball"
	"cusp/bexp"
	"cusp/plus"
	"cusp/times"
)

// The numbers of these tests have long binary digits; slack is what they may be off by, as a power of two.
const (
	long  = 1800
	slack = -800
)

func lengthy(f float64) *big.Float { return new(big.Float).SetPrec(long).SetFloat64(f) }

// A spot is a complex number.
type spot struct{ x, y *big.Float }

func (a spot) plus(b spot) spot { return spot{added(a.x, b.x), added(a.y, b.y)} }

func (a spot) times(b spot) spot {
	return spot{taken(multiplied(a.x, b.x), multiplied(a.y, b.y)), added(multiplied(a.x, b.y), multiplied(a.y, b.x))}
}

// halved is a spot, halved so often.
func (a spot) halved(k int) spot {
	return spot{new(big.Float).SetMantExp(a.x, -k), new(big.Float).SetMantExp(a.y, -k)}
}

// norm is the square of the magnitude.
func (a spot) norm() *big.Float { return added(multiplied(a.x, a.x), multiplied(a.y, a.y)) }

// power is e to the spot: by the series of a small part of it, squared again and again: another way than that of the layers below, without the logarithm of two and without quarter turns.
func (a spot) power() spot {
	k := max(0, a.x.MantExp(nil), a.y.MantExp(nil)) + 12
	small := a.halved(k)
	sum, term := spot{lengthy(1), lengthy(0)}, spot{lengthy(1), lengthy(0)}
	for n := 1.0; n < 140; n++ {
		term = term.times(small)
		term = spot{term.x.Quo(term.x, lengthy(n)), term.y.Quo(term.y, lengthy(n))}
		sum = sum.plus(term)
	}
	for range k {
		sum = sum.times(sum)
	}
	return sum
}

// holds tells whether a number is not surely outside of a ball.
func holds(b api.Ball, w spot) bool {
	if b == plane {
		return true
	}
	far := spot{taken(w.x, lengthy(real(b.Mid))), taken(w.y, lengthy(imag(b.Mid)))}.norm()
	off := w.norm()
	rad := lengthy(b.Rad)
	return far.Cmp(added(multiplied(rad, rad), off.SetMantExp(off, 2*slack))) <= 0
}

// directions lead from the middle to the rim, and halfway.
func directions() [][3]float64 {
	out := [][3]float64{{0, 0, 1}}
	for _, d := range [][3]float64{{1, 0, 1}, {0, 1, 1}, {3, 4, 5}, {12, 5, 13}, {1, 0, 2}, {8, 15, 34}} {
		x, y, by := d[0], d[1], d[2]
		out = append(out, [3]float64{x, y, by}, [3]float64{-x, y, by}, [3]float64{x, -y, by}, [3]float64{-x, -y, by})
	}
	return out
}

// towards is the number so far from the middle of a ball as a direction says.
func towards(b api.Ball, d [3]float64) spot {
	part := func(mid, way float64) *big.Float {
		off := multiplied(lengthy(b.Rad), lengthy(way))
		return added(lengthy(mid), off.Quo(off, lengthy(d[2])))
	}
	return spot{part(real(b.Mid), d[0]), part(imag(b.Mid), d[1])}
}

// modest tells whether floats are such that the tests' numbers have digits enough.
func modest(list ...float64) bool {
	for _, f := range list {
		if math.Abs(f) > 0x1p200 {
			return false
		}
	}
	return true
}

// TestSpots: exponentials that are known, and whether numbers lie in a ball.
func TestSpots(t *testing.T) {
	for _, c := range []struct{ x, y, wantX, wantY string }{
		{"0", "0", "1", "0"},
		{"1", "0", "2.7182818284590452353602874713526624977572470936999595749669676277240766303535475945713821785251664274274663919320031", "0"},
		{"-1", "0", "0.36787944117144232159552377016146086744581113103176783450783680169746149574489980335714727434591964374662732527684400", "0"},
		{"0", "1", "0.54030230586813971740093660744297660373231042061792222767009725538110039477447176451795185608718308934357173116003008909786", "0.84147098480789650665250232163029899962256306079837106567275170999191040439123966894863974354305269585434903790792067429325911"},
		{"0", "3.1415926535897932384626433832795028841971693993751058209749445923078164062862089986280348253421170679821480865132823066470938", "-1", "0"},
		{"700", "0", "1.0142320547350045094553295952312676152046795722430733487805362812493517025075236830454816031618297136953899164e+304", "0"},
	} {
		read := func(s string) *big.Float {
			f, _, _ := big.ParseFloat(s, 10, long, big.ToNearestEven)
			return f
		}
		want := spot{read(c.wantX), read(c.wantY)}
		got := spot{read(c.x), read(c.y)}.power()
		if far := (spot{taken(got.x, want.x), taken(got.y, want.y)}).norm(); far.Sign() != 0 && far.MantExp(nil) > 2*(want.x.MantExp(nil)-180) {
			t.Errorf("e to the %s + %si = %.90f + %.90fi", c.x, c.y, got.x, got.y)
		}
	}
	// Squared so often that most digits are lost, and still enough are left: e to the z times e to the -z.
	z := spot{lengthy(-20), lengthy(0x1.3p200)}
	less := spot{lengthy(20), lengthy(-0x1.3p200)}
	if one := z.power().times(less.power()); !holds(of(1, 0, 0), one) {
		t.Errorf("%v, %v", one.x, one.y)
	}
	for _, c := range []struct {
		b    api.Ball
		w    spot
		want bool
	}{
		{of(1, 1, 5), spot{lengthy(4), lengthy(-3)}, true}, {of(1, 1, 5), spot{lengthy(4), lengthy(math.Nextafter(-3, -4))}, false}, {plane, spot{lengthy(1e300), lengthy(0)}, true}, {dot(2, 0), spot{lengthy(2), lengthy(0)}, true}, {dot(2, 0), spot{lengthy(2), lengthy(0x1p-700)}, false}, {of(0, 0, least), spot{lengthy(least), lengthy(0)}, true}, {dot(0, 0), spot{lengthy(least), lengthy(0)}, false},
	} {
		if holds(c.b, c.w) != c.want {
			t.Errorf("%v in %v: %v", c.w, c.b, !c.want)
		}
	}
}

// TestBE3P3Exp: e to each number of a ball lies in Exp's.
func TestBE3P3Exp(t *testing.T) {
	r := numbers{194}
	discs := 0
	for range 250 {
		b := r.ball()
		if !modest(real(b.Mid), imag(b.Mid), b.Rad) {
			continue
		}
		got, err := bexp.Exp(b)
		if err != api.OK {
			t.Errorf("Exp(%x): %v", b, err)
		}
		if got == plane { // all lies in it, and the numbers of some such balls are far too long
			continue
		}
		all := directions()
		if b.Rad == 0 {
			all = all[:1]
		} else {
			discs++
		}
		for _, d := range all {
			if !holds(got, towards(b, d).power()) {
				t.Errorf("Exp(%x) = %x: not that of the number at %v", b, got, d)
			}
		}
	}
	if discs < 50 {
		t.Error(discs)
	}
}

// TestBE3P3Polar: each magnitude, at each argument, lies in Polar's ball; the point at x on the unit circle in Cis's.
func TestBE3P3Polar(t *testing.T) {
	r := numbers{195}
	discs := 0
	for range 500 {
		abs, arg := r.lengths(), r.span(r.float())
		if !modest(abs.Hi, arg.Lo, arg.Hi) {
			continue
		}
		got, err := bexp.Polar(abs, arg)
		if err != api.OK {
			t.Errorf("Polar(%x, %x): %v", abs, arg, err)
		}
		if got != plane {
			discs++
		}
		for _, a := range []float64{arg.Lo, arg.Hi, arg.Lo/2 + arg.Hi/2} {
			on := spot{lengthy(0), lengthy(a)}.power()
			if circle, _ := bexp.Cis(a); !holds(circle, on) {
				t.Errorf("Cis(%x) = %x: it does not lie in it", a, circle)
			}
			for _, f := range []float64{abs.Lo, abs.Hi, abs.Lo/2 + abs.Hi/2} {
				if !holds(got, on.times(spot{lengthy(f), lengthy(0)})) {
					t.Errorf("Polar(%x, %x) = %x: not %x at %x", abs, arg, got, f, a)
				}
			}
		}
	}
	if discs < 200 {
		t.Error(discs)
	}
}

// TestBE3Conj: the exponential of the conjugate is the conjugate, bit by bit.
func TestBE3Conj(t *testing.T) {
	r := numbers{196}
	for range 3000 {
		b := r.ball()
		got, err := bexp.Exp(b)
		turned, errTurned := bexp.Exp(conjugateBall(b))
		if !alike(turned, conjugateBall(got)) || err != api.OK || errTurned != api.OK {
			t.Errorf("Exp(%x) = %x, of its conjugate %x", b, got, turned)
		}
		x := r.float()
		point, _ := bexp.Cis(x)
		below, _ := bexp.Cis(-x)
		if !alike(below, conjugateBall(point)) {
			t.Errorf("Cis(%x) = %x, of it turned %x", x, point, below)
		}
	}
}

// TestBE3Products: the exponential of a sum and the product of both exponentials meet.
func TestBE3Products(t *testing.T) {
	r := numbers{197}
	for range 1500 {
		a, b := r.ball(), r.ball()
		sum, _ := plus.Add(a, b)
		whole, _ := bexp.Exp(sum)
		one, _ := bexp.Exp(a)
		other, _ := bexp.Exp(b)
		product, _ := times.Mul(one, other)
		if !ball.Meets(whole, product) {
			t.Errorf("Exp of %x and of %x = %x and %x, of their sum %x", a, b, one, other, whole)
		}
	}
}

// TestBE3Circle: the point on the unit circle is the exponential of xi, and what has the magnitude 1 and that argument (but for a nought); its magnitude is 1.
func TestBE3Circle(t *testing.T) {
	r := numbers{198}
	for range 1500 {
		x := r.float()
		point, err := bexp.Cis(x)
		power, _ := bexp.Exp(dot(0, x))
		polar, _ := bexp.Polar(from(1, 1), from(x, x))
		abs, _ := ball.Abs(point)
		if !alike(point, power) || point != polar || err != api.OK || abs.Lo > 1 || abs.Hi < 1 {
			t.Errorf("Cis(%x) = %x, %v, Exp %x, Polar %x, of the magnitudes %x", x, point, err, power, polar, abs)
		}
	}
}
