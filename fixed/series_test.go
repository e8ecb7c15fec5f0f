package fixed_test

import (
	"math/big"
	"testing"

	"cusp/fixed"
	"cusp/natural"
)

// known is a number between its first digits and one unit more of the last.
func known(text string) (*big.Rat, *big.Rat) {
	lo, _ := new(big.Rat).SetString(text)
	unit := new(big.Int).Exp(big.NewInt(10), big.NewInt(int64(len(text)-2)), nil)
	return lo, new(big.Rat).Add(lo, new(big.Rat).SetFrac(big.NewInt(1), unit))
}

// checkAround: at so few places that the number's known digits are more, it lies between the bounds; and these are near to one another.
func checkAround(t *testing.T, what string, tell func(places int) fixed.Bounds, text string) {
	t.Helper()
	lo, hi := known(text)
	for places := 1; places < 300; places++ {
		b := tell(places)
		if value(b.Lo, places).Cmp(lo) > 0 || value(b.Hi, places).Cmp(hi) < 0 || b.Places != places {
			t.Errorf("%s at %d places: %x to %x", what, places, b.Lo, b.Hi)
		}
		if apart := natural.Sub(b.Hi, b.Lo); natural.Length(apart) > 7+natural.Length(natural.Of(uint64(places))) {
			t.Errorf("%s at %d places: %x to %x are far apart", what, places, b.Lo, b.Hi)
		}
	}
}

func TestPi(t *testing.T) {
	checkAround(t, "Pi", fixed.Pi, "3.14159265358979323846264338327950288419716939937510582097494459230781640628620899862803482534211706798214808651328230664709384460955058223172535940812848111745028410270193852110555964462294895493038196")
}

func TestArtanh(t *testing.T) {
	logOfTwo := func(places int) fixed.Bounds { return fixed.Artanh(3, places).Times(2) }
	checkAround(t, "twice Artanh(3)", logOfTwo, "0.69314718055994530941723212145817656807550013436025525412068000949339362196969471560586332699641868754200148102057068573368552023575813055703267075163507596193072757082837143519030703862389167347112335")
}

// TestPiNarrows: the bounds at few places, and at many, hold those at still more.
func TestPiNarrows(t *testing.T) {
	exact := fixed.Pi(4000)
	for places := 1; places < 2000; places += 37 {
		b := fixed.Pi(places)
		if value(b.Lo, places).Cmp(value(exact.Lo, 4000)) > 0 || value(b.Hi, places).Cmp(value(exact.Hi, 4000)) < 0 {
			t.Errorf("at %d places: %x to %x", places, b.Lo, b.Hi)
		}
	}
}

func TestSummed(t *testing.T) {
	check(t, "Summed", fixed.Summed(natural.Of(40), 6, 4), rat(40, 16), rat(48, 16))
}
