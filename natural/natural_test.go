package natural_test

import (
	"encoding/binary"
	"math"
	"math/big"
	"slices"
	"testing"

	"cusp/natural"
)

func toBig(m []uint32) *big.Int {
	var text []byte
	for _, d := range slices.Backward(m) {
		text = binary.BigEndian.AppendUint32(text, d)
	}
	return new(big.Int).SetBytes(text)
}

func ofBig(n *big.Int) []uint32 {
	m := make([]uint32, (n.BitLen()+31)/32)
	text := n.FillBytes(make([]byte, 4*len(m)))
	for i := range m {
		m[i] = binary.BigEndian.Uint32(text[len(text)-4*i-4:])
	}
	return m
}

// numbers makes numbers by a rule.
type numbers struct{ seed uint64 }

func (r *numbers) word() uint32 {
	r.seed = r.seed*6364136223846793005 + 1442695040888963407
	return uint32(r.seed >> 32)
}

func (r *numbers) below(n int) int { return int(uint64(r.word()) * uint64(n) >> 32) }

// digits are up to so many; some make long rows of equal binary digits, where carries run far.
func (r *numbers) digits(most int) []uint32 {
	m := make([]uint32, r.below(most+1))
	kind := r.below(4)
	for i := range m {
		switch {
		case kind == 0:
			m[i] = math.MaxUint32
		case kind == 1 && r.below(4) > 0:
			m[i] = 0
		default:
			m[i] = r.word() >> r.below(32)
		}
	}
	return natural.Trim(m)
}

func want(t *testing.T, what string, got []uint32, want *big.Int) {
	t.Helper()
	if !slices.Equal(got, ofBig(want)) {
		t.Errorf("%s = %x, want %x", what, got, want)
	}
}

func TestSumsAndProducts(t *testing.T) {
	r := numbers{1}
	for range 3000 {
		a, b := r.digits(12), r.digits(12)
		x, y := toBig(a), toBig(b)
		want(t, "Add", natural.Add(a, b), new(big.Int).Add(x, y))
		want(t, "Mul", natural.Mul(a, b), new(big.Int).Mul(x, y))
		if got := natural.Cmp(a, b); got != x.Cmp(y) {
			t.Errorf("Cmp(%x, %x) = %d", a, b, got)
		}
		if x.Cmp(y) < 0 {
			a, b = b, a
		}
		want(t, "Sub", natural.Sub(a, b), new(big.Int).Abs(new(big.Int).Sub(x, y)))
		want(t, "Sub of itself", natural.Sub(a, a), new(big.Int))
	}
}

func TestQuotients(t *testing.T) {
	r := numbers{2}
	for range 6000 {
		a, b := r.digits(12), r.digits(6)
		if len(b) == 0 {
			continue
		}
		for _, m := range [][]uint32{a, natural.Mul(a, b), natural.Add(natural.Mul(a, b), natural.Of(1))} {
			q, exact := natural.Quo(m, b)
			whole, rest := new(big.Int).QuoRem(toBig(m), toBig(b), new(big.Int))
			want(t, "Quo", q, whole)
			if exact != (rest.Sign() == 0) {
				t.Errorf("Quo(%x, %x): exact is %v", m, b, exact)
			}
			q, left := natural.QuoDigit(m, b[len(b)-1])
			whole, rest = new(big.Int).QuoRem(toBig(m), big.NewInt(int64(b[len(b)-1])), new(big.Int))
			want(t, "QuoDigit", q, whole)
			if uint64(left) != rest.Uint64() {
				t.Errorf("QuoDigit(%x, %x) leaves %x", m, b[len(b)-1], left)
			}
		}
	}
}

func TestRoots(t *testing.T) {
	r := numbers{3}
	for range 2000 {
		a := r.digits(8)
		square := natural.Mul(a, a)
		for _, m := range [][]uint32{a, square, natural.Add(square, natural.Of(1)), natural.Add(square, natural.Left(a, 1))} {
			root, exact := natural.Root(m)
			whole := new(big.Int).Sqrt(toBig(m))
			want(t, "Root", root, whole)
			if exact != (new(big.Int).Mul(whole, whole).Cmp(toBig(m)) == 0) {
				t.Errorf("Root(%x): exact is %v", m, exact)
			}
		}
	}
}

func TestShifts(t *testing.T) {
	r := numbers{4}
	for range 3000 {
		m, k := r.digits(8), r.below(200)
		n := toBig(m)
		want(t, "Left", natural.Left(m, k), new(big.Int).Lsh(n, uint(k)))
		want(t, "Right", natural.Right(m, k), new(big.Int).Rsh(n, uint(k)))
		if got := natural.Length(m); got != n.BitLen() {
			t.Errorf("Length(%x) = %d", m, got)
		}
		if len(m) > 0 && natural.Trailing(m) != int(n.TrailingZeroBits()) {
			t.Errorf("Trailing(%x) = %d", m, natural.Trailing(m))
		}
	}
}

func TestWords(t *testing.T) {
	r := numbers{5}
	list := []uint64{0, 1, 2, 1<<32 - 1, 1 << 32, 1<<32 + 1, 1 << 63, math.MaxUint64}
	for range 500 {
		list = append(list, (uint64(r.word())<<32|uint64(r.word()))>>r.below(64))
	}
	for _, n := range list {
		m := natural.Of(n)
		want(t, "Of", m, new(big.Int).SetUint64(n))
		if natural.Word(m) != n {
			t.Errorf("Word(Of(%x)) = %x", n, natural.Word(m))
		}
	}
	for range 500 {
		m := r.digits(8)
		if want := new(big.Int).And(toBig(m), new(big.Int).SetUint64(math.MaxUint64)); natural.Word(m) != want.Uint64() {
			t.Errorf("Word(%x) = %x", m, natural.Word(m))
		}
	}
	if got := natural.Trim([]uint32{0, 3, 0, 0}); !slices.Equal(got, []uint32{0, 3}) {
		t.Errorf("Trim = %x", got)
	}
	if got := natural.Trim([]uint32{0, 0}); len(got) != 0 {
		t.Errorf("Trim of noughts = %x", got)
	}
}

// TestMemory: no function changes what it is handed, nor answers any of its memory.
func TestMemory(t *testing.T) {
	r := numbers{6}
	for range 300 {
		a, b := natural.Add(r.digits(9), natural.Of(1)), natural.Add(r.digits(4), natural.Of(1))
		wasA, wasB := slices.Clone(a), slices.Clone(b)
		q, _ := natural.Quo(a, b)
		d, _ := natural.QuoDigit(a, 1)
		root, _ := natural.Root(a)
		for _, out := range [][]uint32{
			q, d, root, natural.Add(a, b), natural.Add(a, nil), natural.Sub(a, natural.Of(1)), natural.Sub(a, nil), natural.Mul(a, b), natural.Mul(a, natural.Of(1)), natural.Left(a, 0), natural.Left(a, 5), natural.Right(a, 0), natural.Right(a, 33),
		} {
			clear(out[:cap(out)])
		}
		if !slices.Equal(a, wasA) || !slices.Equal(b, wasB) {
			t.Fatalf("%x and %x were changed to %x and %x", wasA, wasB, a, b)
		}
	}
}
