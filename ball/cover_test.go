package ball_test

import (
	"math"
	"math/big"
	"testing"

	"cusp/api"
	"cusp/ball"
)

// timesUp is a product, rounded up: of the half and of a small power of two of a float.
func timesUp(f float64, exponent int) float64 {
	v := new(big.Rat).SetFloat64(f)
	return rounded(v.Quo(v, new(big.Rat).SetInt(new(big.Int).Lsh(big.NewInt(1), uint(exponent)))), api.Up)
}

func plusUp(a, b float64) float64 {
	if a == inf || b == inf {
		return inf
	}
	return towards(twice(plus(whole(a), whole(b))), api.Up)
}

// unit is the value of the last bit of a float that is not below 0.
func unit(f float64) float64 {
	if f == inf {
		return inf
	}
	_, exp := math.Frexp(f) // f is below 2^exp, and not below half of that
	if f == 0 || exp-53 < -1074 {
		return least
	}
	return math.Ldexp(1, exp-53)
}

// wantCover is BA7's, with the language's products and sums, that are those to the nearest.
func wantCover(b api.Ball) []api.Ball {
	if b.Rad == 0 || b.Rad == inf {
		return []api.Ball{b}
	}
	p, q, s := float64(b.Rad*0.75), float64(b.Rad*0.4330127018922193), float64(b.Rad*0.8660254037844386) // rounded ahead of the sums
	x, y := real(b.Mid), imag(b.Mid)
	middles := []complex128{b.Mid, complex(x+p, y+q), complex(x+0, y+s), complex(x+-p, y+q), complex(x+-p, y+-q), complex(x+0, y+-s), complex(x+p, y+-q)}
	most := 0.0
	for _, z := range middles {
		most = max(most, math.Abs(real(z)), math.Abs(imag(z)))
	}
	rad := plusUp(plusUp(plusUp(timesUp(b.Rad, 1), timesUp(b.Rad, 50)), unit(most)), unit(most))
	var out []api.Ball
	for _, z := range middles {
		out = append(out, finite(z, rad))
	}
	return out
}

func checkCover(t *testing.T, b api.Ball, want []api.Ball) {
	t.Helper()
	got, err := ball.Cover(b)
	if err != api.OK || len(got) != len(want) {
		t.Errorf("Cover(%v) = %v, %v", b, got, err)
		return
	}
	for i := range want {
		if !alike(got[i], want[i]) {
			t.Errorf("Cover(%v)[%d] = %x, want %x", b, i, got[i], want[i])
		}
	}
}

func TestBA7Cases(t *testing.T) {
	const q, s, rad = 0.4330127018922193, 0.8660254037844386, 0.5 + 0x1p-50 + 0x1p-52 // with the unit of s, that is 2^-53, twice
	checkCover(t, of(0, 0, 1), []api.Ball{of(0, 0, rad), of(0.75, q, rad), of(0, s, rad), of(-0.75, q, rad), of(-0.75, -q, rad), of(0, -s, rad), of(0.75, -q, rad)})
	// The first one is Mid itself, bit by bit; a sum with 0 is +0, with -0 (that is -q here) -0.
	n, m, four := minusZero, float64(least), 4*float64(least)
	checkCover(t, of(n, n, least), []api.Ball{of(n, n, four), of(m, 0, four), of(0, m, four), of(-m, 0, four), of(-m, n, four), of(0, -m, four), of(m, n, four)})
	for _, b := range []api.Ball{plane, dot(0, 0), dot(minusZero, minusZero), dot(-4, minusZero), dot(greatest, least)} {
		checkCover(t, b, []api.Ball{b})
	}
	planes := []api.Ball{plane, plane, plane, plane, plane, plane, plane}
	for _, b := range []api.Ball{of(greatest, 0, greatest), of(0, -greatest, 0x1p1000), of(greatest, greatest, 0x1p971)} { // one middle has an infinite part: so the radius of all
		checkCover(t, b, planes)
	}
	// All are finite here, as p and s are at most 7/8 of Rad.
	if got, _ := ball.Cover(of(0, 0, greatest)); len(got) != 7 || ball.Whole(got[0]) || ball.Whole(got[6]) {
		t.Errorf("Cover of the greatest radius = %v", got)
	}
}

func TestBA7Many(t *testing.T) {
	for _, b := range corners() {
		checkCover(t, b, wantCover(b))
	}
	r := numbers{149}
	for range 3000 {
		b := r.ball()
		checkCover(t, b, wantCover(b))
	}
}

func TestBA7Wrong(t *testing.T) {
	for _, w := range wrongBalls() {
		if got, err := ball.Cover(w); err != api.ErrBall || len(got) > 0 {
			t.Errorf("Cover(%v) = %v, %v", w, got, err)
		}
	}
}

// fine tells finer numbers than floats: whole numbers of 2^-(1074+extra).
const extra = 120

func fine(f float64) *big.Int { return new(big.Int).Lsh(whole(f), extra) }

// place is Mid, moved by Rad times a pair of numbers in 2^-extra.
func place(b api.Ball, x, y *big.Int) [2]*big.Int {
	move := func(mid float64, by *big.Int) *big.Int {
		return plus(fine(mid), new(big.Int).Mul(whole(b.Rad), by))
	}
	return [2]*big.Int{move(real(b.Mid), x), move(imag(b.Mid), y)}
}

func isIn(b api.Ball, at [2]*big.Int) bool {
	x, y := minus(at[0], fine(real(b.Mid))), minus(at[1], fine(imag(b.Mid)))
	return b.Rad == inf || plus(square(x), square(y)).Cmp(square(fine(b.Rad))) <= 0
}

// tight are pairs where seven discs of half the radius cover the disc with nothing to spare: where the hexagon has its corners, and halfway there.
func tight() [][2]*big.Int {
	one := new(big.Int).Lsh(big.NewInt(1), extra)
	half := new(big.Int).Rsh(one, 1)
	high := new(big.Int).Sqrt(new(big.Int).Rsh(new(big.Int).Mul(big.NewInt(3), square(one)), 2)) // the root of 3/4, cut
	corners := [][2]*big.Int{{one, new(big.Int)}, {half, high}, {new(big.Int).Neg(half), high}}
	var out [][2]*big.Int
	for _, c := range corners {
		for _, shift := range []uint{0, 1} {
			x, y := new(big.Int).Quo(c[0], big.NewInt(1<<shift)), new(big.Int).Quo(c[1], big.NewInt(1<<shift))
			out = append(out, [2]*big.Int{x, y}, [2]*big.Int{new(big.Int).Neg(x), new(big.Int).Neg(y)})
		}
	}
	return out
}

// pairs are tight ones, and others in the disc, on its rim too.
func (r *numbers) pairs() [][2]*big.Int {
	out := tight()
	one := new(big.Int).Lsh(big.NewInt(1), extra)
	for i := range 40 {
		x := new(big.Int).Lsh(new(big.Int).SetUint64(r.word()), extra-64)
		rim := new(big.Int).Sqrt(minus(square(one), square(x)))
		if i%2 == 0 { // anywhere below the rim
			rim.Mul(rim, new(big.Int).SetUint64(r.word()>>1))
			rim.Rsh(rim, 63)
		}
		if r.below(2) == 0 {
			x.Neg(x)
		}
		if r.below(2) == 0 {
			rim.Neg(rim)
		}
		if r.below(2) == 0 {
			x, rim = rim, x
		}
		out = append(out, [2]*big.Int{x, rim})
	}
	return out
}

// TestBA8Holds: exactly, of numbers that are no floats, too.
func TestBA8Holds(t *testing.T) {
	r := numbers{150}
	all := corners()
	for range 500 {
		all = append(all, r.ball())
		b := api.Ball{Mid: r.value(), Rad: unit(math.Abs(r.float())) * float64(1+r.below(5))} // some units, so that each rounding counts
		b.Rad = min(b.Rad, greatest)
		all = append(all, b)
		b.Rad = unit(max(math.Abs(real(b.Mid)), math.Abs(imag(b.Mid)))) * (0.25 + float64(r.below(9))/4)
		b.Rad = max(least, min(b.Rad, greatest))
		all = append(all, b)
	}
	for _, b := range all {
		if b.Rad == inf {
			continue
		}
		cover, err := ball.Cover(b)
		if err != api.OK {
			t.Fatal(b, err)
		}
		for _, pair := range r.pairs() {
			at := place(b, pair[0], pair[1])
			held := false
			for _, c := range cover {
				held = held || isIn(c, at)
			}
			if !isIn(b, at) || !held {
				t.Fatalf("Cover(%v) = %v holds not Mid and Rad times %v", b, cover, pair)
			}
		}
	}
}

// TestP2CoverMemory: each answer is new memory, its spare room too.
func TestP2CoverMemory(t *testing.T) {
	for _, b := range []api.Ball{of(1, 2, 3), dot(1, 2), plane, of(greatest, 0, greatest)} {
		first, _ := ball.Cover(b)
		want := wantCover(b)
		first = first[:cap(first)]
		for i := range first {
			first[i] = of(nan, nan, nan)
		}
		checkCover(t, b, want)
	}
}
