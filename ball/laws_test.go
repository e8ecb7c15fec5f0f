package ball_test

import (
	"math"
	"math/big"
	"strings"
	"testing"

	"cusp/api"
	"cusp/ball"
	"cusp/point"
)

// TestBA6Order: each ball lies within itself; two that lie within one another are one set; of three that lie within one another the first lies within the last.
func TestBA6Order(t *testing.T) {
	r := numbers{151}
	all := corners()
	for range 60 {
		a, b := r.pair()
		all = append(all, a, b)
	}
	chains := 0
	for _, a := range all {
		checkIs(t, ball.Within(a, a), true, "Within", a, a)
		for _, b := range all {
			in := ball.Within(a, b)
			if in && ball.Within(b, a) && (a.Mid != b.Mid || a.Rad != b.Rad) {
				t.Errorf("%v and %v lie within one another", a, b)
			}
			checkIs(t, ball.Meets(a, b), ball.Meets(b, a), "Meets", a, b)
			if in && !ball.Meets(a, b) {
				t.Errorf("%v lies within %v, and does not meet it", a, b)
			}
			for range 3 {
				if c := all[r.below(len(all))]; in && ball.Within(b, c) {
					chains++
					checkIs(t, ball.Within(a, c), true, "Within", a, c)
				}
			}
		}
	}
	if chains < 100 {
		t.Error(chains)
	}
}

// some are numbers of a ball, its outermost ones to the four sides among them.
func (r *numbers) some(b api.Ball) []complex128 {
	x, y, rad := real(b.Mid), imag(b.Mid), min(b.Rad, greatest)
	list := []complex128{b.Mid, complex(x+rad, y), complex(x-rad, y), complex(x, y+rad), complex(x, y-rad)}
	for range 12 {
		turn, far := float64(r.below(6283))/1000, rad
		if r.below(2) == 0 {
			far *= float64(r.below(1000)) / 1000
		}
		z := b.Mid + complex(far*math.Cos(turn), far*math.Sin(turn))
		list = append(list, z, r.nearTo(z))
	}
	var out []complex128
	for _, z := range list {
		if ball.Has(b, z) {
			out = append(out, z)
		}
	}
	return out
}

func TestBA6Has(t *testing.T) {
	r := numbers{152}
	within := 0
	for range 2500 {
		a, b := r.pair()
		in := ball.Within(a, b)
		if in {
			within++
		}
		for _, z := range r.some(a) {
			if in && !ball.Has(b, z) {
				t.Errorf("%v lies within %v, but %v does not lie in it", a, b, z)
			}
			if ball.Has(b, z) && !ball.Meets(a, b) {
				t.Errorf("%v lies in %v and %v, and they do not meet", z, a, b)
			}
		}
	}
	if within < 300 {
		t.Error(within)
	}
}

// TestBA6P7Hull: it holds both, by Within and exactly.
func TestBA6P7Hull(t *testing.T) {
	r := numbers{153}
	for range 2500 {
		a, b := r.pair()
		hull, err := ball.Hull(a, b)
		if err != api.OK || !ball.Valid(hull) || !wantWithin(a, hull) || !wantWithin(b, hull) || !ball.Within(a, hull) || !ball.Within(b, hull) {
			t.Errorf("Hull(%v, %v) = %v, %v does not hold both", a, b, hull, err)
		}
	}
}

func precise(f float64) *big.Float { return new(big.Float).SetPrec(300).SetFloat64(f) }

// TestBA6HullRadius: a ball that holds both has at least half of their distance and both radii for its radius. (Far above the least floats, below which no 2^-48 of anything is left.)
func TestBA6HullRadius(t *testing.T) {
	r := numbers{154}
	add := func(a, b *big.Float) *big.Float { return new(big.Float).SetPrec(300).Add(a, b) }
	sub := func(a, b *big.Float) *big.Float { return new(big.Float).SetPrec(300).Sub(a, b) }
	half := func(a *big.Float) *big.Float { return new(big.Float).SetMantExp(a, -1) }
	tried := 0
	for range 6000 {
		a, b := r.pair()
		hull, _ := ball.Hull(a, b)
		size := math.Abs(real(a.Mid)) + math.Abs(imag(a.Mid)) + math.Abs(real(b.Mid)) + math.Abs(imag(b.Mid)) + a.Rad + b.Rad
		if ball.Within(a, b) || ball.Within(b, a) || size > 0x1p1000 || size < 0x1p-900 {
			continue
		}
		tried++
		x, y := sub(precise(real(a.Mid)), precise(real(b.Mid))), sub(precise(imag(a.Mid)), precise(imag(b.Mid)))
		far := new(big.Float).SetPrec(300).Sqrt(add(x.Mul(x, x), y.Mul(y, y)))
		least := half(add(far, add(precise(a.Rad), precise(b.Rad))))
		apart := half(sub(precise(a.Rad), precise(b.Rad)))
		middle := math.Hypot(real(a.Mid)/2+real(b.Mid)/2, imag(a.Mid)/2+imag(b.Mid)/2) // that ball's lies on the line between both
		slack, _ := least.Float64()
		slack = 0x1p-48 * max(slack, middle-slack)
		if most := add(add(least, apart.Abs(apart)), precise(slack)); precise(hull.Rad).Cmp(most) > 0 {
			t.Errorf("Hull(%v, %v) = %v: beyond %v", a, b, hull, most)
		}
	}
	if tried < 1000 {
		t.Error(tried)
	}
}

// TestBA6Parts: Box and Abs hold the parts and magnitudes of numbers in the ball, From of the Box the ball.
func TestBA6Parts(t *testing.T) {
	r := numbers{155}
	for range 2500 {
		b, _ := r.pair()
		re, im, _ := ball.Box(b)
		size, _ := ball.Abs(b)
		for _, z := range r.some(b) {
			low, high := re.Lo <= real(z) && im.Lo <= imag(z), real(z) <= re.Hi && imag(z) <= im.Hi
			p := distance(z, 0)
			if !low || !high || p.Cmp(square(whole(size.Lo))) < 0 || !notBelow(size.Hi, new(big.Int), p) {
				t.Errorf("%v lies in %v, not in its Box %x, %x or Abs %x", z, b, re, im, size)
			}
		}
		from, err := ball.From(re, im)
		if err != api.OK || !ball.Within(b, from) {
			t.Errorf("From of the Box of %v = %v, %v", b, from, err)
		}
	}
}

// TestBA6P9Texts: what is shown is read as the same middle, bit by bit, or the plane, and holds the ball.
func TestBA6P9Texts(t *testing.T) {
	r := numbers{156}
	all := corners()
	for range 3000 {
		all = append(all, r.ball())
	}
	middles, planes := 0, 0
	for _, b := range all {
		got, err := ball.Read(ball.Show(b))
		switch {
		case err != api.OK || !ball.Within(b, got):
			t.Errorf("Read(%q) = %v, %v", ball.Show(b), got, err)
		case point.Same(got.Mid, b.Mid) && got.Rad < inf:
			middles++
		case alike(got, plane):
			planes++
		default:
			t.Errorf("Read(%q) = %v", ball.Show(b), got)
		}
	}
	if middles < 2500 || planes == 0 {
		t.Error(middles, planes)
	}
}

func conj(b api.Ball) api.Ball { return api.Ball{Mid: point.Conj(b.Mid), Rad: b.Rad} }

// TestP5Conjugate: of the conjugates comes the conjugate, equal and with the same radius. (The plane's Mid is 0+0i, and is its own.)
func TestP5Conjugate(t *testing.T) {
	r := numbers{157}
	for range 1500 {
		a, b := r.pair()
		if a.Rad == inf || b.Rad == inf {
			continue
		}
		checkIs(t, ball.Within(conj(a), conj(b)), ball.Within(a, b), "Within", a, b)
		checkIs(t, ball.Meets(conj(a), conj(b)), ball.Meets(a, b), "Meets", a, b)
		checkIs(t, ball.Ray(conj(a)), ball.Ray(a), "Ray", a)
		hull, _ := ball.Hull(a, b)
		turned, _ := ball.Hull(conj(a), conj(b))
		if turned.Mid != point.Conj(hull.Mid) || turned.Rad != hull.Rad {
			t.Errorf("Hull(%v, %v) = %v, of the conjugates %v", a, b, hull, turned)
		}
		size, _ := ball.Abs(a)
		turnedSize, _ := ball.Abs(conj(a))
		checkSpan(t, turnedSize, size, "Abs", a)
		re, im, _ := ball.Box(a)
		turnedRe, turnedIm, _ := ball.Box(conj(a))
		checkSpan(t, turnedRe, re, "Box", a)
		checkSpan(t, turnedIm, between(-im.Hi+0, -im.Lo+0), "Box", a)
	}
}

// TestP1Total: every call at all floats ends, and what comes out without an error may be.
func TestP1Total(t *testing.T) {
	floats := append(anyFloats(), 0x1p970, 5, -0.3)
	var all []api.Ball
	for _, x := range floats {
		for _, rad := range floats {
			all = append(all, of(x, -x, rad), of(0, x, rad), of(x, 1, rad))
		}
	}
	may := func(what string, b api.Ball, err api.Errno) {
		if (err == api.OK) != ball.Valid(b) && !alike(b, api.Ball{}) || err != api.OK && !alike(b, api.Ball{}) {
			t.Errorf("%s = %v, %v", what, b, err)
		}
	}
	for i, a := range all {
		b := all[(i*31+7)%len(all)]
		hull, err := ball.Hull(a, b)
		may("Hull", hull, err)
		grown, err := ball.Grow(a, real(b.Mid))
		may("Grow", grown, err)
		from, err := ball.From(between(real(a.Mid), real(b.Mid)), between(a.Rad, b.Rad))
		may("From", from, err)
		made, err := ball.Of(a.Mid, b.Rad)
		may("Of", made, err)
		list, err := ball.Cover(a)
		for _, c := range list {
			may("Cover", c, err)
		}
		ball.Has(a, b.Mid)
		ball.Within(a, b)
		ball.Meets(a, b)
		ball.Ray(a)
		ball.Box(a)
		ball.Abs(a)
		read, err := ball.Read(strings.Replace(ball.Show(a), "~", ball.Show(b), i%2))
		may("Read", read, err)
	}
}

// TestP2Again: the same arguments make the same answers, whatever was asked between.
func TestP2Again(t *testing.T) {
	r := numbers{158}
	type answer struct {
		a, b, hull, grown, read api.Ball
		re, im, size            api.Interval
	}
	ask := func(a, b api.Ball) answer {
		out := answer{a: a, b: b}
		out.hull, _ = ball.Hull(a, b)
		out.grown, _ = ball.Grow(a, b.Rad)
		out.read, _ = ball.Read(ball.Show(a))
		out.re, out.im, _ = ball.Box(a)
		out.size, _ = ball.Abs(b)
		return out
	}
	var first []answer
	for range 200 {
		first = append(first, ask(r.pair()))
	}
	for i := range first {
		if again := ask(first[i].a, first[i].b); again != first[i] {
			t.Errorf("%v, then %v", first[i], again)
		}
	}
}
