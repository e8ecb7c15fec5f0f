package consts_test

import (
	"math"
	"math/big"
	"sync"
	"testing"

	"cusp/api"
	"cusp/consts"
)

var inf = math.Inf(1)

func kinds() []int {
	return []int{consts.Pi, consts.HalfPi, consts.TwoPi, consts.E, consts.Ln2, consts.Ln10, consts.Sqrt2, consts.Golden}
}

func wrongKinds() []int {
	return []int{0, 9, 10, -1, -8, 100, 1<<32 + consts.Pi, 1<<8 + consts.E, math.MaxInt, math.MinInt}
}

// prec is how many binary digits the constants of the tests are reckoned with, goodBits how many of them are surely right. 1000 decimal digits are fewer than 3330 binary ones.
const (
	prec     = 8192
	goodBits = 7000
)

func float(x float64) *big.Float { return new(big.Float).SetPrec(prec).SetFloat64(x) }

func quo(x, y *big.Float) *big.Float { return float(0).Quo(x, y) }

func half(x *big.Float) *big.Float { return quo(x, float(2)) }

// mean is the number that arithmetic and geometric means run to.
func mean(a, b *big.Float) *big.Float {
	for range 60 {
		a, b = half(float(0).Add(a, b)), float(0).Sqrt(float(0).Mul(a, b))
	}
	return a
}

// piByMeans is by Gauss's, Brent's and Salamin's way.
func piByMeans() *big.Float {
	a, b, t, p := float(1), float(0).Sqrt(float(0.5)), float(0.25), float(1)
	for range 14 {
		next := half(float(0).Add(a, b))
		b = float(0).Sqrt(float(0).Mul(a, b))
		far := float(0).Sub(a, next)
		t = float(0).Sub(t, float(0).Mul(p, far.Mul(far, far)))
		p = float(0).Mul(p, float(2))
		a = next
	}
	sum := float(0).Add(a, b)
	return quo(sum.Mul(sum, sum), float(0).Mul(float(4), t))
}

// logByMeans is the logarithm of base, from that of base^times, which is nearly pi / (2 * mean of 1 and 4 / base^times).
func logByMeans(base, times int64) *big.Float {
	power := float(0).SetInt(new(big.Int).Exp(big.NewInt(base), big.NewInt(times), nil))
	log := half(quo(piByMeans(), mean(float(1), quo(float(4), power))))
	return log.Quo(log, float(float64(times)))
}

// eByFractions is by its continued fraction: 2; 1, 2, 1, 1, 4, 1, 1, 6, 1, ..
func eByFractions() *big.Float {
	x := float(1)
	for k := 2000; k > 0; k -= 2 {
		for _, term := range []float64{1, float64(k), 1} {
			x = float(0).Add(float(term), quo(float(1), x))
		}
	}
	return x.Add(float(2), quo(float(1), x))
}

// constants are those of consts, each by another way than there.
var constants = sync.OnceValue(func() map[int]*big.Float {
	pi := piByMeans()
	return map[int]*big.Float{
		consts.Pi: pi, consts.HalfPi: half(pi), consts.TwoPi: float(0).Add(pi, pi),
		consts.E: eByFractions(), consts.Ln2: logByMeans(2, 5000), consts.Ln10: logByMeans(10, 1500),
		consts.Sqrt2: float(0).Sqrt(float(2)), consts.Golden: half(float(0).Add(float(1), float(0).Sqrt(float(5)))),
	}
})

// tightest is what R says of a number, Down and Up.
func tightest(x *big.Float) api.Interval {
	near, far := x.Float64()
	switch far {
	case big.Below:
		return api.Interval{Lo: near, Hi: math.Nextafter(near, inf)}
	case big.Above:
		return api.Interval{Lo: math.Nextafter(near, -inf), Hi: near}
	}
	return api.Interval{Lo: near, Hi: near}
}

func same(a, b api.Interval) bool {
	return math.Float64bits(a.Lo) == math.Float64bits(b.Lo) && math.Float64bits(a.Hi) == math.Float64bits(b.Hi)
}

func check(t *testing.T, got api.Interval, err api.Errno, want api.Interval, what string, of int) {
	t.Helper()
	if !same(got, want) || err != api.OK {
		t.Errorf("%s(%d) = %x, %v, want %x", what, of, got, err, want)
	}
}

// numbers makes numbers by a rule.
type numbers struct{ seed uint64 }

func (r *numbers) word() uint64 {
	r.seed = r.seed*6364136223846793005 + 1442695040888963407
	return r.seed>>32 ^ r.seed<<32
}

// TestReference: the constants of the tests begin as those of the library do.
func TestReference(t *testing.T) {
	library := map[int]string{
		consts.Pi: "3.14159265358979323846264338327950288419716939937510582097494459", consts.E: "2.71828182845904523536028747135266249775724709369995957496696763",
		consts.Ln2: "0.693147180559945309417232121458176568075500134360255254120680009", consts.Ln10: "2.30258509299404568401799145468436420760110148862877297603332790",
		consts.Sqrt2: "1.41421356237309504880168872420969807856967187537694807317667974", consts.Golden: "1.61803398874989484820458683436563811772030917980576286213544862",
	}
	for kind, text := range library {
		want, _, _ := big.ParseFloat(text, 10, prec, big.ToNearestEven)
		if far := float(0).Sub(want, constants()[kind]); far.Sign() != 0 && far.MantExp(nil) > -200 {
			t.Errorf("the constant %d of the tests is %.70f", kind, constants()[kind])
		}
	}
	// Of pi, by another formula: 48 arctan(1/18) + 32 arctan(1/57) - 20 arctan(1/239).
	pi := float(0)
	for n, times := range map[float64]float64{18: 48, 57: 32, 239: -20} {
		power, square := quo(float(times), float(n)), float(-n*n)
		for odd := 1.0; odd < 2000; odd += 2 {
			pi.Add(pi, quo(power, float(odd)))
			power.Quo(power, square)
		}
	}
	if far := pi.Sub(pi, constants()[consts.Pi]); far.MantExp(nil) > -goodBits {
		t.Errorf("pi is %d binary digits off", far.MantExp(nil))
	}
}
