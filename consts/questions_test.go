package consts

import (
	"testing"

	"cusp/api"
	"cusp/fixed"
	"cusp/natural"
)

const fine = 2000 // places of bounds that stand for the constant itself

// TestBoundsHold: with whatever places, the constant lies between the bounds, and these are near to one another.
func TestBoundsHold(t *testing.T) {
	for kind := Pi; kind <= Golden; kind++ {
		exact := near(kind, fine)
		for places := 32; places < 400; places++ {
			b := near(kind, places)
			k := exact.Places - b.Places
			if natural.Cmp(natural.Left(b.Lo, k), exact.Lo) > 0 || natural.Cmp(natural.Left(b.Hi, k), exact.Hi) < 0 {
				t.Errorf("near(%d, %d) does not hold the constant", kind, places)
			}
			if apart := natural.Sub(b.Hi, b.Lo); natural.Length(apart) > 16 {
				t.Errorf("near(%d, %d) is %x apart", kind, places, apart)
			}
		}
	}
}

// TestSettledIsRight: what few places settle, more settle alike; and few do not settle all.
func TestSettledIsRight(t *testing.T) {
	open := 0
	for kind := Pi; kind <= Golden; kind++ {
		exact := near(kind, fine)
		for places := 60; places < 72; places++ {
			for n := uint64(1); n < 200; n++ {
				if !agree(t, near(kind, places).Times(n), exact.Times(n), kind, places) {
					open++
				}
			}
			open += fractionsOpen(t, near(kind, places), exact)
		}
	}
	if open < 100 {
		t.Errorf("only %d questions were open", open)
	}
}

// agree tells whether b settles the interval, which must be that of exact bounds then.
func agree(t *testing.T, b, exact fixed.Bounds, kind, places int) bool {
	t.Helper()
	got, settled := b.Tight()
	want, sure := exact.Tight()
	if settled && got != want || !sure {
		t.Errorf("constant %d with %d places: %x, want %x (%v)", kind, places, got, want, sure)
	}
	return settled
}

// fractionsOpen is how many questions for fractions and digits b leaves open; what it settles must be right.
func fractionsOpen(t *testing.T, b, exact fixed.Bounds) int {
	t.Helper()
	open := 0
	for most := uint64(1); most <= maxBelow; most *= 2 {
		got, settled := best(b, most)
		if want, sure := best(exact, most); settled && got != want || !sure {
			t.Errorf("best of %d: %v, want %v (%v)", most, got, want, sure)
		}
		if !settled {
			open++
		}
	}
	for n := range 30 {
		got, settled := floor(b, tenTo(n))
		if want, sure := floor(exact, tenTo(n)); settled && natural.Cmp(got, want) != 0 || !sure {
			t.Errorf("%d digits: %x, want %x (%v)", n, got, want, sure)
		}
		if !settled {
			open++
		}
	}
	return open
}

// TestOpenOnEdges: bounds on both sides of a float or a fraction settle nothing.
func TestOpenOnEdges(t *testing.T) {
	one := natural.Of(1)
	edge := fixed.Whole(3, 128)
	b := fixed.Bounds{Lo: natural.Sub(edge.Lo, one), Hi: natural.Add(edge.Hi, one), Places: 128}
	if s, settled := b.Tight(); settled {
		t.Errorf("tight = %x", s)
	}
	if n, settled := floor(b, one); settled {
		t.Errorf("floor = %x", n)
	}
	if side, settled := against(b, fraction{3, 1}); settled {
		t.Errorf("against = %d", side)
	}
	for _, most := range []uint64{1, 2, 10, maxBelow} {
		if f, settled := best(b, most); settled {
			t.Errorf("best = %v", f)
		}
	}
	above := fixed.Bounds{Lo: edge.Lo, Hi: b.Hi, Places: 128}
	if s, settled := above.Tight(); !settled || s != (api.Interval{Lo: 3, Hi: 0x1.8000000000001p1}) {
		t.Errorf("just above 3: tight = %x, %v", s, settled)
	}
	below := fixed.Bounds{Lo: b.Lo, Hi: edge.Lo, Places: 128}
	if side, settled := against(below, fraction{3, 1}); side != -1 || !settled {
		t.Errorf("just below 3: against = %d, %v", side, settled)
	}
}
