package dyad_test

import (
	"math"
	"math/big"
	"testing"

	"cusp/api"
	"cusp/dyad"
)

func wantUp(t *testing.T, what string, c, p, q dyad.Num, want float64) {
	t.Helper()
	got, err := dyad.Up(c, p, q)
	wantFloat(t, "Up "+what, got, err, want)
	got, err = dyad.Up(c, q, p)
	wantFloat(t, "Up, turned, "+what, got, err, want)
}

// times is a * b, whether it may be or not.
func times(a, b dyad.Num) dyad.Num {
	return ofBig(new(big.Int).Mul(toBig(a), toBig(b)), a.E+b.E)
}

func TestD4UpWrittenOut(t *testing.T) {
	two, zero := of(2), dyad.Num{}
	root2 := math.Float64frombits(0x3ff6a09e667f3bcd) // above the root; the float before it is below
	for _, c := range []struct {
		c, p, q dyad.Num
		want    float64
	}{
		{zero, zero, zero, 0}, {zero, two, zero, root2}, {zero, zero, two, root2}, {of(1), of(4), of(9), 6}, {of(-5), of(4), of(9), 0}, {of(-6), of(4), of(9), -1}, {of(0.1), zero, zero, 0.1},
		{zero, two, of(8), 0x1.0f876ccdf6cdap2}, {of(-root2), two, zero, -0x1.bdd3413b26455p-54}, {of(-below(root2)), two, zero, 0x1.21165f626cdd6p-53},
		{gap(60, -60), zero, zero, above(1)}, {of(-1), gap(60, -60), zero, 0x1p-61},
		{minus(pow(-2000)), zero, zero, minusZero}, {pow(-2000), zero, zero, least}, {minus(pow(-2000)), pow(-4000), zero, 0}, {minus(pow(-2000)), pow(-4001), zero, minusZero}, {minus(pow(-2000)), pow(-3999), zero, least},
		{minus(pow(-2000)), pow(-4002), pow(-4002), 0}, {minus(pow(-2000)), pow(-4002), pow(-4003), minusZero}, {minus(pow(-2000)), pow(-4002), pow(-4001), least},
		// Roots that are each below the least float, and more than that together.
		{zero, ofBig(big.NewInt(9), -2152), ofBig(big.NewInt(9), -2152), 2 * least}, {zero, ofBig(big.NewInt(3), -2150), ofBig(big.NewInt(3), -2150), 2 * least}, {zero, pow(-2150), pow(-2150), least}, {zero, pow(-2151), pow(-2151), least}, {minus(pow(-1074)), ofBig(big.NewInt(3), -2150), ofBig(big.NewInt(3), -2150), least}, {minus(pow(-1074)), pow(-2151), pow(-2151), minusZero},
		{of(greatest), pow(-maxExp), zero, inf}, {of(greatest), zero, zero, greatest}, {of(-greatest), pow(-maxExp), zero, -below(greatest)}, {bigSum(of(-greatest), minus(pow(-2000))), pow(-3000), zero, -below(greatest)},
		{minus(pow(maxExp)), pow(maxExp), pow(maxExp), -greatest}, {pow(maxExp), zero, zero, inf}, {minus(ones(maxBits, maxExp)), ones(maxBits, maxExp), ones(maxBits, maxExp), -greatest},
		{zero, pow(2047), zero, 0x1.6a09e667f3bcdp1023}, {zero, pow(2048), zero, inf}, {minus(pow(-1500)), pow(2048), zero, inf}, {minus(pow(970)), pow(2048), zero, inf}, {minus(pow(971)), pow(2048), zero, greatest}, {minus(pow(1023)), pow(2048), zero, 0x1p1023},
		{zero, times(of(greatest), of(greatest)), zero, greatest}, {zero, bigSum(times(of(greatest), of(greatest)), pow(-3000)), zero, inf}, {zero, bigSum(times(of(greatest), of(greatest)), minus(pow(-3000))), zero, greatest},
	} {
		wantUp(t, brief(c.c)+" "+brief(c.p)+" "+brief(c.q), c.c, c.p, c.q, c.want)
	}
}

// TestD4UpBeside: sums that are a float, or the least bit more or less.
func TestD4UpBeside(t *testing.T) {
	floats := []float64{0, 1, -1, 0.1, -0.1, least, -least, 3 * least, 0x1p-1022, -0x1p-1022, 1e300, -1e300, greatest, -greatest}
	roots := []dyad.Num{pow(0), pow(-1500), pow(400), of(0.1), gap(700, -1400), ones(100, 3)}
	for _, f := range floats {
		for _, x := range roots {
			for _, y := range append(roots, dyad.Num{}) {
				c := bigSum(of(f), minus(bigSum(x, y)))
				p, q := times(x, x), times(y, y)
				wantUp(t, "exactly", c, p, q, f+0)
				after := above(f)
				tiny := pow(min(p.E, q.E, -9000) - 10)
				wantUp(t, "a bit more", c, bigSum(p, tiny), q, after)
				wantUp(t, "a bit more", bigSum(c, pow(-8000)), p, q, after)
				less := f
				if f == 0 {
					less = minusZero
				}
				wantUp(t, "a bit less", c, bigSum(p, minus(tiny)), q, less)
				wantUp(t, "a bit less", bigSum(c, minus(pow(-8000))), p, q, less)
			}
		}
	}
}

// bigRoot is the root of a, with very many binary digits.
func bigRoot(a dyad.Num) *big.Float {
	return new(big.Float).Sqrt(new(big.Float).SetPrec(9000).SetMantExp(new(big.Float).SetPrec(9000).SetInt(toBig(a)), a.E))
}

// TestD4UpRoots: c takes all but the last digits of two roots that are not whole away.
func TestD4UpRoots(t *testing.T) {
	r := numbers{9}
	for range 300 {
		p, q := r.positive(200, 100), r.positive(200, 100)
		places := 1080 + r.below(3000)
		both := new(big.Float).Add(bigRoot(p), bigRoot(q))
		units, _ := both.SetMantExp(both, places).Int(nil)
		f := math.Float64frombits(uint64(r.word())<<32 | uint64(r.word()))
		if f != f || math.Abs(f) == inf {
			continue
		}
		square := func(a dyad.Num) bool {
			_, exact, _ := dyad.Root(a, 2000)
			return exact
		}
		if square(p) && square(q) {
			continue
		}
		c := bigSum(of(f), minus(ofBig(units, -places)))
		wantUp(t, "more", c, p, q, above(f))
		wantUp(t, "less", bigSum(c, minus(pow(-places))), p, q, f)
	}
}

// upReference is c and the roots of p and q rounded up. All are numbers of at most 200 digits, with E at most 300 from 0: then what is not 0 is well above 2^-6000, the digits of bigRoot's last place well below.
func upReference(c, p, q dyad.Num) float64 {
	all := new(big.Float).Add(bigRoot(p), bigRoot(q))
	all.Add(all, new(big.Float).SetPrec(9000).SetRat(rat(c)))
	far := func(f float64) int {
		d := new(big.Float).Sub(all, big.NewFloat(f).SetPrec(9000))
		if d.Sign() == 0 || d.MantExp(nil) < -6000 {
			return 0
		}
		return d.Sign()
	}
	f, _ := all.Float64()
	for far(f) > 0 {
		f = above(f)
	}
	for far(below(f)) <= 0 {
		f = below(f)
	}
	if far(f) == 0 {
		return f + 0
	}
	return f
}

func TestD4P6Up(t *testing.T) {
	r := numbers{10}
	for i := range 1500 {
		bits := 1 + i%120
		c, p, q := r.num(bits, 60), r.positive(bits, 120), r.positive(bits, 120)
		wantUp(t, brief(c)+" "+brief(p)+" "+brief(q), c, p, q, upReference(c, p, q))
		wantUp(t, brief(c)+" "+brief(p)+" "+brief(p), c, p, p, upReference(c, p, p))
		s := times(c, c)
		wantUp(t, brief(c)+" "+brief(s)+" "+brief(q), c, s, q, upReference(c, s, q))
		wantUp(t, brief(c)+" "+brief(s)+" and 0", c, s, dyad.Num{}, upReference(c, s, dyad.Num{}))
	}
}

// TestD4UpLong: numbers with as many digits as may be.
func TestD4UpLong(t *testing.T) {
	r := numbers{11}
	for range 4 {
		x := r.num(maxBits/2-5, 10)
		x.Neg = false
		x.E = -maxExp / 2
		for _, one := range []struct{ f, almost1 float64 }{{0, 1}, {1, 2}, {-least, 1}, {1e200, above(1e200)}} {
			c, p := bigSum(of(one.f), minus(x)), times(x, x)
			wantUp(t, "long, exactly", c, p, dyad.Num{}, one.f)
			wantUp(t, "long, and very little", c, p, pow(-maxExp), above(one.f))
			wantUp(t, "long, and nearly 1", c, p, ones(maxBits, -maxExp), one.almost1)
		}
	}
	for _, k := range []int{-maxExp, -maxExp + 1, 0, 1, maxExp - 1, maxExp} {
		a := ones(maxBits, k)
		units := new(big.Int).Sqrt(new(big.Int).Lsh(toBig(a), uint(k&1)))
		c := minus(ofBig(units, (k-k&1)/2))
		wantUp(t, "less a long root", c, a, dyad.Num{}, floatUp(t, a, c))
	}
}

// floatUp is the root of a less its whole part, rounded up, by many binary digits.
func floatUp(t *testing.T, a, c dyad.Num) float64 {
	t.Helper()
	const prec = 4 * maxBits
	x := new(big.Float).SetPrec(prec).SetInt(toBig(a))
	x.Sqrt(x.SetMantExp(x, a.E))
	y := new(big.Float).SetPrec(prec).SetInt(toBig(c))
	x.Add(x, y.SetMantExp(y, c.E))
	f, how := x.Float64()
	if how == big.Below {
		return above(f)
	}
	return f
}

func TestD4UpNoLong(t *testing.T) {
	for _, c := range edges() {
		for _, p := range []dyad.Num{{}, pow(maxExp), ones(maxBits, -maxExp), of(3)} {
			got, err := dyad.Up(c, p, pow(-maxExp))
			if err != api.OK || got != got {
				t.Errorf("Up(%s, %s, ..) = %x, %v", brief(c), brief(p), got, err)
			}
		}
	}
}
