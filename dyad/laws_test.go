package dyad_test

import (
	"math"
	"slices"
	"testing"

	"cusp/api"
	"cusp/dyad"
)

// must is an answer without an error.
func must(t *testing.T) func(dyad.Num, api.Errno) dyad.Num {
	return func(a dyad.Num, err api.Errno) dyad.Num {
		t.Helper()
		if err != api.OK || !dyad.Valid(a) {
			t.Fatalf("%s, %v", brief(a), err)
		}
		return a
	}
}

func TestD6Ring(t *testing.T) {
	must := must(t)
	r := numbers{13}
	zero, one := dyad.Num{}, dyad.Whole(1)
	law := func(what string, a, b dyad.Num) {
		t.Helper()
		if !same(a, b) || dyad.Cmp(a, b) != 0 {
			t.Errorf("%s: %s, %s", what, brief(a), brief(b))
		}
	}
	for i := range 1000 {
		bits := 1 + i%150
		a, b, c := r.num(bits, 100), r.num(bits, 100), r.num(bits, 100)
		law("a+b = b+a", must(dyad.Add(a, b)), must(dyad.Add(b, a)))
		law("ab = ba", must(dyad.Mul(a, b)), must(dyad.Mul(b, a)))
		law("(a+b)+c = a+(b+c)", must(dyad.Add(must(dyad.Add(a, b)), c)), must(dyad.Add(a, must(dyad.Add(b, c)))))
		law("(ab)c = a(bc)", must(dyad.Mul(must(dyad.Mul(a, b)), c)), must(dyad.Mul(a, must(dyad.Mul(b, c)))))
		law("a(b+c) = ab+ac", must(dyad.Mul(a, must(dyad.Add(b, c)))), must(dyad.Add(must(dyad.Mul(a, b)), must(dyad.Mul(a, c)))))
		law("a+0 = a", must(dyad.Add(a, zero)), a)
		law("1a = a", must(dyad.Mul(one, a)), a)
		law("0a = 0", must(dyad.Mul(zero, a)), zero)
		law("a-a = 0", must(dyad.Sub(a, a)), zero)
		law("a-b = a+(-b)", must(dyad.Sub(a, b)), must(dyad.Add(a, dyad.Neg(b))))
		law("-(-a) = a", dyad.Neg(dyad.Neg(a)), a)
		law("a*2^k", must(dyad.Shift(a, b.E)), must(dyad.Mul(a, pow(b.E))))
		orderLaws(t, a, b, c)
	}
}

func orderLaws(t *testing.T, a, b, c dyad.Num) {
	t.Helper()
	must := must(t)
	ab := dyad.Cmp(a, b)
	if dyad.Cmp(b, a) != -ab || dyad.Sign(must(dyad.Sub(a, b))) != ab {
		t.Errorf("Cmp(%s, %s) = %d", brief(a), brief(b), ab)
	}
	if dyad.Cmp(must(dyad.Add(a, c)), must(dyad.Add(b, c))) != ab {
		t.Errorf("order of sums: %s, %s, %s", brief(a), brief(b), brief(c))
	}
	if dyad.Cmp(must(dyad.Mul(a, c)), must(dyad.Mul(b, c))) != ab*dyad.Sign(c) {
		t.Errorf("order of products: %s, %s, %s", brief(a), brief(b), brief(c))
	}
	list := []dyad.Num{a, b, c}
	slices.SortFunc(list, dyad.Cmp)
	if dyad.Cmp(list[0], list[2]) > 0 || dyad.Cmp(list[0], list[1]) > 0 || dyad.Cmp(list[1], list[2]) > 0 {
		t.Errorf("order: %s, %s, %s", brief(a), brief(b), brief(c))
	}
}

// someFloats are finite floats, the edges with them.
func someFloats() []float64 {
	out := []float64{0, minusZero, 1, -1, 0.1, least, 2 * least, 0x1p-1022, 0x1p-1022 - least, greatest, below(greatest), 6, 1e-300}
	r := numbers{14}
	for range 500 {
		if f := math.Float64frombits(uint64(r.word())<<32 | uint64(r.word())); f-f == 0 {
			out = append(out, f)
		}
	}
	for _, f := range slices.Clone(out) {
		out = append(out, -f)
	}
	return out
}

func TestD6OfAndRound(t *testing.T) {
	list := someFloats()
	for i, f := range list {
		a, err := dyad.Of(f)
		if err != api.OK || !dyad.Valid(a) {
			t.Fatalf("Of(%x): %v", f, err)
		}
		for _, mode := range modes {
			got, err := dyad.Round(a, mode)
			wantFloat(t, "Round of Of", got, err, f+0)
		}
		for _, g := range list[:i] {
			b, _ := dyad.Of(g)
			if same(a, b) != (f == g) || dyad.Cmp(a, b) < 0 != (f < g) {
				t.Errorf("Of(%x), Of(%x): %s, %s", f, g, brief(a), brief(b))
			}
		}
	}
}

func TestD6Rounding(t *testing.T) {
	var list []dyad.Num
	for _, a := range roundingEdges() {
		list = append(list, a, minus(a))
	}
	r := numbers{15}
	for range 500 {
		list = append(list, r.num(120, 1150))
	}
	slices.SortFunc(list, dyad.Cmp)
	last := [3]float64{-inf, -inf, -inf}
	for _, a := range list {
		var at [3]float64
		for i, mode := range modes {
			at[i], _ = dyad.Round(a, mode)
			if at[i] < last[i] {
				t.Errorf("Round(%s, %d) = %x, after %x", brief(a), mode, at[i], last[i])
			}
		}
		if at[0] > at[1] || at[1] > at[2] {
			t.Errorf("Round(%s): %x", brief(a), at)
		}
		b, err := dyad.Of(at[1])
		if isFloat := err == api.OK && same(a, b); isFloat != (at[0] == at[2]) {
			t.Errorf("Round(%s): %x", brief(a), at)
		}
		last = at
	}
}

func TestD6QuoAndRoot(t *testing.T) {
	must := must(t)
	r := numbers{16}
	for i := range 1000 {
		a, b := r.num(1+i%200, 80), r.num(1+r.below(200), 80)
		place := r.below(300) - 150
		q, exact, err := dyad.Quo(a, b, place)
		must(q, err)
		if w := dyad.Sign(b); dyad.Cmp(must(dyad.Mul(q, b)), a)*w > 0 || dyad.Cmp(must(dyad.Mul(must(dyad.Add(q, pow(-place))), b)), a)*w <= 0 {
			t.Errorf("Quo(%s, %s, %d) = %s", brief(a), brief(b), place, brief(q))
		}
		if exact != same(must(dyad.Mul(q, b)), a) {
			t.Errorf("Quo(%s, %s, %d): %v", brief(a), brief(b), place, exact)
		}
		x := dyad.Abs(a)
		q, exact, err = dyad.Root(x, place)
		must(q, err)
		more := must(dyad.Add(q, pow(-place)))
		if dyad.Sign(q) < 0 || dyad.Cmp(must(dyad.Mul(q, q)), x) > 0 || dyad.Cmp(must(dyad.Mul(more, more)), x) <= 0 || exact != same(must(dyad.Mul(q, q)), x) {
			t.Errorf("Root(%s, %d) = %s, %v", brief(x), place, brief(q), exact)
		}
		if whole, is, err := dyad.Floor(q, place); !is || err != api.OK || !same(whole, q) {
			t.Errorf("Root(%s, %d) = %s is no multiple", brief(x), place, brief(q))
		}
	}
}

// roomy is a with spare room behind its digits, all of it marked.
func roomy(a dyad.Num) dyad.Num {
	m := slices.Concat(a.M, slices.Repeat([]uint32{0xC0FFEE}, 8))
	return dyad.Num{Neg: a.Neg, M: m[:len(a.M)], E: a.E}
}

// numCalls are the calls that answer a Num, of two Nums.
func numCalls() map[string]func(a, b dyad.Num) dyad.Num {
	first := func(a dyad.Num, _ api.Errno) dyad.Num { return a }
	second := func(a dyad.Num, _ bool, _ api.Errno) dyad.Num { return a }
	return map[string]func(a, b dyad.Num) dyad.Num{
		"Make":   func(a, b dyad.Num) dyad.Num { return first(dyad.Make(b.Neg, a.M, b.E)) },
		"Neg":    func(a, b dyad.Num) dyad.Num { return dyad.Neg(a) },
		"Abs":    func(a, b dyad.Num) dyad.Num { return dyad.Abs(a) },
		"Add":    func(a, b dyad.Num) dyad.Num { return first(dyad.Add(a, b)) },
		"Sub":    func(a, b dyad.Num) dyad.Num { return first(dyad.Sub(a, b)) },
		"Mul":    func(a, b dyad.Num) dyad.Num { return first(dyad.Mul(a, b)) },
		"Shift":  func(a, b dyad.Num) dyad.Num { return first(dyad.Shift(a, 3)) },
		"Shift0": func(a, b dyad.Num) dyad.Num { return first(dyad.Shift(a, 0)) },
		"Floor":  func(a, b dyad.Num) dyad.Num { return second(dyad.Floor(a, 2)) },
		"Floor9": func(a, b dyad.Num) dyad.Num { return second(dyad.Floor(a, 500)) },
		"Quo":    func(a, b dyad.Num) dyad.Num { return second(dyad.Quo(a, b, 40)) },
		"Quo1":   func(a, b dyad.Num) dyad.Num { return second(dyad.Quo(a, pow(0), 500)) },
		"Root":   func(a, b dyad.Num) dyad.Num { return second(dyad.Root(a, 40)) },
		"Read":   func(a, b dyad.Num) dyad.Num { return first(dyad.Read(dyad.Show(a))) },
		"Whole":  func(a, b dyad.Num) dyad.Num { return dyad.Whole(a.E + 7) },
		"Of":     func(a, b dyad.Num) dyad.Num { return first(dyad.Of(float64(a.E) + 0.75)) },
	}
}

// otherCalls are the calls that answer no Num.
func otherCalls() map[string]func(a, b dyad.Num) {
	return map[string]func(a, b dyad.Num){
		"Valid": func(a, b dyad.Num) { dyad.Valid(a) },
		"Sign":  func(a, b dyad.Num) { dyad.Sign(a) },
		"Bits":  func(a, b dyad.Num) { dyad.Bits(a) },
		"Top":   func(a, b dyad.Num) { dyad.Top(a) },
		"Cmp":   func(a, b dyad.Num) { dyad.Cmp(a, b) },
		"Round": func(a, b dyad.Num) { dyad.Round(a, api.Near) },
		"Ratio": func(a, b dyad.Num) { dyad.Ratio(a, b, api.Near) },
		"Sqrt":  func(a, b dyad.Num) { dyad.Sqrt(a, api.Near) },
		"Up":    func(a, b dyad.Num) { dyad.Up(a, b, a) },
		"Show":  func(a, b dyad.Num) { dyad.Show(a) },
	}
}

// TestD7P2Memory: the digits that are handed in stay, the room behind them too; what comes out may be overwritten, to its last place, and nothing else changes.
func TestD7P2Memory(t *testing.T) {
	r := numbers{17}
	list := []dyad.Num{{}, pow(0), of(3), of(-0.75), {M: []uint32{0, 6, 0, 0}}, {M: []uint32{2}}, {M: []uint32{0}}}
	for range 20 {
		list = append(list, r.num(200, 100), r.positive(200, 100))
	}
	for _, x := range list {
		for _, y := range list {
			a, b := roomy(x), roomy(y)
			unchanged := func(name string) {
				t.Helper()
				for _, pair := range [][2]dyad.Num{{a, roomy(x)}, {b, roomy(y)}} {
					got, want := pair[0], pair[1]
					if !same(got, want) || !slices.Equal(got.M[:cap(got.M)][:len(got.M)+8], want.M[:len(want.M)+8]) {
						t.Fatalf("%s changes what it is handed", name)
					}
				}
			}
			for name, call := range otherCalls() {
				call(a, b)
				unchanged(name)
			}
			for name, call := range numCalls() {
				first := call(a, b)
				keep := dyad.Num{Neg: first.Neg, M: slices.Clone(first.M), E: first.E}
				second := call(a, b)
				all := first.M[:cap(first.M)]
				for i := range all {
					all[i] = 0xDEAD
				}
				unchanged(name)
				if !same(second, keep) || !same(call(a, b), keep) {
					t.Fatalf("%s: answers share memory", name)
				}
			}
		}
	}
}

// TestP1Total: nothing panics, whatever Nums, and an answer beside OK may be.
func TestP1Total(t *testing.T) {
	list := append(wrongNums(), dyad.Num{}, pow(0), minus(of(3)), pow(maxExp), minus(pow(-maxExp)), ones(maxBits, maxExp), gap(maxBits-1, -maxExp))
	for _, a := range list {
		for _, b := range list {
			for name, call := range numCalls() {
				if got := call(a, b); !dyad.Valid(got) {
					t.Errorf("%s(%s, %s) = %s", name, brief(a), brief(b), brief(got))
				}
			}
			for _, call := range otherCalls() {
				call(a, b)
			}
		}
	}
}
