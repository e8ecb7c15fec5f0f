package consts_test

import (
	"math"
	"math/big"
	"testing"

	"cusp/api"
	"cusp/consts"
)

const maxBelow = 1 << 30

// short is a constant with fewer digits, still many more than a fraction of this size is settled by.
func short(kind int) *big.Rat {
	x, _ := new(big.Float).SetPrec(600).Set(constants()[kind]).Rat(nil)
	return x
}

func checkBest(t *testing.T, kind, most int, p, q int64) {
	t.Helper()
	gotP, gotQ, err := consts.Best(kind, most)
	if int64(gotP) != p || int64(gotQ) != q || err != api.OK {
		t.Errorf("Best(%d, %d) = %d, %d, %v, want %d, %d", kind, most, gotP, gotQ, err, p, q)
	}
}

func TestCN4WrittenOut(t *testing.T) {
	for _, c := range []struct {
		kind, most int
		p, q       int64
	}{
		{consts.Pi, 10, 22, 7}, {consts.Pi, 1000, 355, 113}, {consts.Pi, 1, 3, 1}, {consts.Pi, 6, 19, 6}, {consts.Pi, 7, 22, 7}, {consts.Pi, 56, 22, 7}, {consts.Pi, 57, 179, 57}, {consts.Pi, 112, 333, 106}, {consts.Pi, 113, 355, 113}, {consts.Pi, 16603, 355, 113}, {consts.Pi, 16604, 52163, 16604},
		{consts.E, 1, 3, 1}, {consts.E, 4, 11, 4}, {consts.E, 7, 19, 7}, {consts.TwoPi, 1, 6, 1}, {consts.TwoPi, 113, 710, 113}, {consts.HalfPi, 1, 2, 1}, {consts.HalfPi, 225, 344, 219}, {consts.HalfPi, 226, 355, 226},
		{consts.Ln2, 1, 1, 1}, {consts.Ln2, 2, 1, 2}, {consts.Ln2, 3, 2, 3}, {consts.Ln10, 1, 2, 1}, {consts.Ln10, 3, 7, 3}, {consts.Sqrt2, 1, 1, 1}, {consts.Sqrt2, 2, 3, 2}, {consts.Sqrt2, 5, 7, 5},
		{consts.Golden, 1, 2, 1}, {consts.Golden, 8, 13, 8}, {consts.Golden, 12, 13, 8}, {consts.Golden, 13, 21, 13}, {consts.Golden, maxBelow, 1134903170, 701408733},
		{consts.Pi, maxBelow, 2549491779, 811528438},
	} {
		checkBest(t, c.kind, c.most, c.p, c.q)
	}
}

// far is how far a fraction is from x.
func far(x *big.Rat, p, q int64) *big.Rat {
	d := new(big.Rat).Sub(x, big.NewRat(p, q))
	return d.Abs(d)
}

// TestCN4ByTrial: all denominators are gone through.
func TestCN4ByTrial(t *testing.T) {
	for _, kind := range kinds() {
		x := short(kind)
		f, _ := x.Float64()
		bestP, bestQ := int64(0), int64(1)
		for q := int64(1); q <= 1500; q++ {
			for p := int64(f*float64(q)) - 1; p < int64(f*float64(q))+3; p++ {
				if far(x, p, q).Cmp(far(x, bestP, bestQ)) < 0 { // of equal ones the first has lesser terms
					bestP, bestQ = p, q
				}
			}
			checkBest(t, kind, int(q), bestP, bestQ)
		}
	}
}

// byTerms is the nearest fraction by the continued fraction: the last whole one, or the one that takes as much of the next term as may be.
func byTerms(x *big.Rat, most int64) (int64, int64) {
	type fraction struct{ p, q int64 }
	before, last := fraction{0, 1}, fraction{1, 0}
	rest := new(big.Rat).Set(x)
	for {
		term := new(big.Int).Div(rest.Num(), rest.Denom()).Int64()
		if last.q > 0 && term > (most-before.q)/last.q {
			term = (most - before.q) / last.q
			part := fraction{before.p + term*last.p, before.q + term*last.q}
			if far(x, part.p, part.q).Cmp(far(x, last.p, last.q)) < 0 {
				return part.p, part.q
			}
			return last.p, last.q
		}
		before, last = last, fraction{before.p + term*last.p, before.q + term*last.q}
		rest.Sub(rest, big.NewRat(term, 1))
		rest.Inv(rest)
	}
}

func TestCN4ByTerms(t *testing.T) {
	r := numbers{4}
	for _, kind := range kinds() {
		x := short(kind)
		list := []int{1, 2, 3, maxBelow, maxBelow - 1, maxBelow - 2, maxBelow / 2}
		for range 150 {
			most := 1 + int(r.word()>>(34+r.word()%30))
			// From here on, and just ahead of it, another one is the best.
			_, q := byTerms(x, int64(most))
			list = append(list, most, int(q), max(1, int(q)-1), int(q)+1)
		}
		for _, most := range list {
			p, q := byTerms(x, int64(most))
			checkBest(t, kind, most, p, q)
		}
	}
}

func TestCN4Lowest(t *testing.T) {
	r := numbers{5}
	for _, kind := range kinds() {
		for range 200 {
			most := 1 + int(r.word()>>(34+r.word()%30))
			p, q, err := consts.Best(kind, most)
			if err != api.OK || q < 1 || q > most || new(big.Int).GCD(nil, nil, big.NewInt(int64(p)), big.NewInt(int64(q))).Int64() != 1 {
				t.Errorf("Best(%d, %d) = %d, %d, %v", kind, most, p, q, err)
			}
		}
	}
}

func TestCN4Wrong(t *testing.T) {
	wrong := func(kind, most int) {
		t.Helper()
		if p, q, err := consts.Best(kind, most); p != 0 || q != 0 || err != api.ErrArg {
			t.Errorf("Best(%d, %d) = %d, %d, %v", kind, most, p, q, err)
		}
	}
	for _, kind := range wrongKinds() {
		for _, most := range []int{1, 10, maxBelow, 0, -1, maxBelow + 1} {
			wrong(kind, most)
		}
	}
	for _, kind := range kinds() {
		for _, most := range []int{0, -1, -7, maxBelow + 1, 1 << 31, 1<<32 + 1, math.MaxInt, math.MinInt} {
			wrong(kind, most)
		}
	}
}
