package span_test

import (
	"math"
	"math/big"
	"slices"
	"testing"

	"cusp/api"
	"cusp/dyad"
	"cusp/span"
)

// parts are what Simplest answers, that must be two whole Nums, the second one above 0, in least terms.
func parts(t *testing.T, a api.Interval) (*big.Int, *big.Int) {
	t.Helper()
	p, q, err := span.Simplest(a)
	if err != api.OK || !dyad.Valid(p) || !dyad.Valid(q) || p.E < 0 || q.E < 0 || dyad.Sign(q) != 1 {
		t.Fatalf("Simplest(%x) = %s, %s, %v", a, dyad.Show(p), dyad.Show(q), err)
	}
	above, below := value(p).Num(), value(q).Num()
	if new(big.Int).GCD(nil, nil, new(big.Int).Abs(above), below).Cmp(big.NewInt(1)) != 0 {
		t.Errorf("Simplest(%x) = %v / %v: not in least terms", a, above, below)
	}
	return above, below
}

func checkSimplest(t *testing.T, a api.Interval, above, below int64) {
	t.Helper()
	p, q := parts(t, a)
	if p.Cmp(big.NewInt(above)) != 0 || q.Cmp(big.NewInt(below)) != 0 {
		t.Errorf("Simplest(%x) = %v / %v, want %d / %d", a, p, q, above, below)
	}
}

func TestSP6SimplestCases(t *testing.T) {
	cases := []struct {
		a    api.Interval
		p, q int64
	}{
		{of(3.1, 3.2), 16, 5}, {of(3.14, 3.15), 22, 7}, {of(-1, 1), 0, 1}, {of(-3.2, -3.1), -16, 5},
		{of(3.141592653589793, 3.1415926535897936), 165707065, 52746197},
		{of(-0.34, -0.33), -1, 3}, {of(0.33, 0.34), 1, 3}, {alone(0.5), 1, 2}, {alone(-0.75), -3, 4}, {alone(7), 7, 1}, {alone(0), 0, 1},
		{of(2.5, 9), 3, 1}, {of(2, 9), 2, 1}, {of(-9, -2.5), -3, 1}, {of(-9, -2), -2, 1}, {of(0, 9), 0, 1}, {of(-9, 0), 0, 1}, {of(0.4, 1), 1, 1}, {of(least, 1), 1, 1},
		{span.All(), 0, 1}, {of(2.5, inf), 3, 1}, {of(-inf, -2.5), -3, 1}, {of(least, inf), 1, 1}, {of(-inf, -least), -1, 1}, {of(-inf, 5), 0, 1}, {of(-5, inf), 0, 1},
		{of(0.5, 0.75), 1, 2}, {of(0.51, 0.74), 2, 3}, {of(0.51, 0.6), 4, 7}, {of(0x1.0000000000001p-1, 0x1.8p-1), 2, 3},
		{of(1, afterOne), 1, 1}, {of(beforeOne, 1), 1, 1},
	}
	for _, c := range cases {
		checkSimplest(t, c.a, c.p, c.q)
	}
}

// TestSP7LeastByTrial: all denominators are gone through from 1 on.
func TestSP7LeastByTrial(t *testing.T) {
	r := numbers{86}
	for range 1500 {
		lo := float64(r.below(4000)-2000)/float64(1+r.below(1000)) + 0
		hi := lo + float64(1+r.below(1000))*math.Ldexp(1, -8-r.below(8)) // so far that few denominators are gone through
		p, q := byTrial(lo, hi)
		checkSimplest(t, of(lo, hi), p, q)
	}
}

func byTrial(lo, hi float64) (int64, int64) {
	for q := int64(1); ; q++ {
		// The least magnitude of all p from lo * q to hi * q.
		from := ceil(new(big.Rat).Mul(exact(lo), big.NewRat(q, 1)))
		to := -ceil(new(big.Rat).Mul(exact(hi), big.NewRat(-q, 1)))
		switch {
		case from > to:
			continue
		case from > 0:
			return from, q
		case to < 0:
			return to, q
		}
		return 0, q
	}
}

func ceil(v *big.Rat) int64 {
	n := new(big.Int).Neg(v.Num())
	return -n.Div(n, v.Denom()).Int64() // Div rounds down: the divisor is above 0
}

// checkLeast: p / q lies in the interval, and its two parents (the fractions next to it on either side among those with a lesser denominator) do not; all other fractions between them have a greater one.
func checkLeast(t *testing.T, a api.Interval) {
	t.Helper()
	p, q := parts(t, a)
	frac := bound{v: new(big.Rat).SetFrac(p, q)}
	if boundOf(a.Lo).cmp(frac) > 0 || frac.cmp(boundOf(a.Hi)) > 0 {
		t.Errorf("Simplest(%x) = %v / %v: not in it", a, p, q)
	}
	one := big.NewInt(1)
	if q.Cmp(one) == 0 {
		// One nearer to 0 must be beyond the end.
		nearer := bound{v: new(big.Rat).SetInt(new(big.Int).Sub(p, big.NewInt(int64(p.Sign()))))}
		if p.Sign() > 0 && boundOf(a.Lo).cmp(nearer) <= 0 || p.Sign() < 0 && nearer.cmp(boundOf(a.Hi)) <= 0 {
			t.Errorf("Simplest(%x) = %v: there is a lesser whole number", a, p)
		}
		return
	}
	// p * under - over * q = 1: over / under is the one below.
	under := new(big.Int).ModInverse(p, q)
	over := new(big.Int).Mul(p, under)
	over.Div(over.Sub(over, one), q)
	lower := bound{v: new(big.Rat).SetFrac(over, under)}
	upper := bound{v: new(big.Rat).SetFrac(new(big.Int).Sub(p, over), new(big.Int).Sub(q, under))}
	if lower.cmp(boundOf(a.Lo)) >= 0 || upper.cmp(boundOf(a.Hi)) <= 0 {
		t.Errorf("Simplest(%x) = %v / %v: there is one with a lesser denominator", a, p, q)
	}
}

func TestSP7LeastByParents(t *testing.T) {
	for _, a := range intervals(edges()) {
		checkLeast(t, a)
	}
	r := numbers{87}
	for range 3000 {
		checkLeast(t, r.interval())
	}
}

// TestSP7Float: of a float alone it is the float.
func TestSP7Float(t *testing.T) {
	r := numbers{88}
	list := []float64{least, -least, 3 * least, leastNormal, leastNormal - least, greatest, -greatest, beforeTop, 0x1p1023, 0.1, 1e-300, 1e300, afterOne, 0x1p53 - 1}
	for range 1000 {
		list = append(list, r.float())
	}
	for _, f := range list {
		p, q := parts(t, alone(f))
		if new(big.Rat).SetFrac(p, q).Cmp(exact(f)) != 0 {
			t.Errorf("Simplest of %x alone = %v / %v", f, p, q)
		}
	}
}

func TestSP6SimplestWrong(t *testing.T) {
	for _, w := range wrongIntervals() {
		p, q, err := span.Simplest(w)
		if err != api.ErrArg || p.Neg || p.E != 0 || len(p.M) > 0 || q.Neg || q.E != 0 || len(q.M) > 0 {
			t.Errorf("Simplest(%x) = %v, %v, %v", w, p, q, err)
		}
	}
}

// TestP2SimplestMemory: what is answered is new, and p and q share nothing, spare room too.
func TestP2SimplestMemory(t *testing.T) {
	for _, a := range []api.Interval{of(3.1, 3.2), alone(0.1), alone(7), alone(-0.75), alone(least), of(-1, 1), span.All(), of(2.5, inf)} {
		wantP, wantQ := parts(t, a)
		p, q, _ := span.Simplest(a)
		clear(p.M[:cap(p.M)])
		if value(q).Num().Cmp(wantQ) != 0 {
			t.Errorf("Simplest(%x): p and q share memory", a)
		}
		clear(q.M[:cap(q.M)])
		if gotP, gotQ := parts(t, a); gotP.Cmp(wantP) != 0 || gotQ.Cmp(wantQ) != 0 {
			t.Errorf("Simplest(%x) changed to %v / %v", a, gotP, gotQ)
		}
	}
}

func power(k int) dyad.Num { return dyad.Num{M: []uint32{1}, E: k} }

func wrongNums() []dyad.Num {
	return []dyad.Num{
		{M: []uint32{2}}, {M: []uint32{1, 0}}, {M: []uint32{0}}, {Neg: true}, {E: 1}, {E: -1}, {M: []uint32{1}, E: dyad.MaxExp + 1}, {M: []uint32{1}, E: math.MinInt},
		{M: slices.Repeat([]uint32{math.MaxUint32}, dyad.MaxBits/32+1)},
	}
}

func TestSP6FractionCases(t *testing.T) {
	whole := dyad.Whole
	cases := []struct {
		p, q dyad.Num
		want api.Interval
	}{
		{whole(1), whole(3), of(0x1.5555555555555p-2, 0x1.5555555555556p-2)},
		{whole(-1), whole(3), of(-0x1.5555555555556p-2, -0x1.5555555555555p-2)},
		{whole(1), whole(-3), of(-0x1.5555555555556p-2, -0x1.5555555555555p-2)},
		{whole(-6), whole(-4), alone(1.5)}, {whole(0), whole(-4), alone(0)}, {dyad.Num{M: []uint32{}}, whole(7), alone(0)},
		{power(1024), whole(1), of(greatest, inf)}, {power(1024), whole(-1), of(-inf, -greatest)},
		{power(-1074), whole(1), alone(least)}, {power(-1075), whole(1), of(0, least)}, {power(-1075), whole(-1), of(-least, 0)},
		{power(dyad.MaxExp), power(-dyad.MaxExp), of(greatest, inf)}, {power(-dyad.MaxExp), power(dyad.MaxExp), of(0, least)},
		{power(dyad.MaxExp), power(dyad.MaxExp - 3), alone(8)},
	}
	for _, c := range cases {
		got, err := span.Fraction(c.p, c.q)
		check(t, got, err, c.want, "Fraction", c.p, c.q)
	}
}

// num is a Num of some digits, with an E of a few hundreds at most.
func (r *numbers) num() dyad.Num {
	m := make([]uint32, 1+r.below(6))
	for i := range m {
		m[i] = uint32(r.word())
	}
	n, _ := dyad.Make(r.below(2) == 0, m, r.below(1601)-800)
	return n
}

func TestSP6P6FractionMany(t *testing.T) {
	r := numbers{89}
	for range 4000 {
		p, q := r.num(), r.num()
		if dyad.Sign(q) == 0 {
			continue
		}
		beforeP, beforeQ := slices.Clone(p.M), slices.Clone(q.M)
		v := new(big.Rat).Quo(value(p), value(q))
		got, err := span.Fraction(p, q)
		check(t, got, err, of(towards(v, api.Down), towards(v, api.Up)), "Fraction", p, q)
		if !slices.Equal(p.M, beforeP) || !slices.Equal(q.M, beforeQ) {
			t.Errorf("Fraction changed %v / %v", p, q)
		}
	}
}

// TestSP6FractionOfSimplest: the interval of a float's fraction is the float alone.
func TestSP6FractionOfSimplest(t *testing.T) {
	r := numbers{90}
	for range 1000 {
		f := r.float()
		p, q, _ := span.Simplest(alone(f))
		got, err := span.Fraction(p, q)
		check(t, got, err, alone(f), "Fraction of Simplest", f)
	}
}

func TestSP6FractionWrong(t *testing.T) {
	for _, w := range wrongNums() {
		for _, n := range append(wrongNums(), dyad.Whole(1), dyad.Num{}) {
			got, err := span.Fraction(w, n)
			checkErr(t, got, err, api.ErrArg, "Fraction", w, n)
			got, err = span.Fraction(n, w)
			checkErr(t, got, err, api.ErrArg, "Fraction", n, w)
		}
	}
	for _, n := range []int{0, 1, -5} {
		got, err := span.Fraction(dyad.Whole(n), dyad.Num{})
		checkErr(t, got, err, api.ErrZero, "Fraction", n, 0)
		got, err = span.Fraction(dyad.Whole(n), dyad.Num{M: []uint32{}})
		checkErr(t, got, err, api.ErrZero, "Fraction", n, "an empty M")
	}
}
