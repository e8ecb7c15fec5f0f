package trig_test

import (
	"math"
	"math/big"
	"testing"

	"cusp/api"
	"cusp/consts"
	"cusp/span"
	"cusp/trig"
)

var whole = api.Interval{Lo: -1, Hi: 1}

// wave is a function of intervals, and that of a float; it is the sine of so many quarter turns more.
type wave struct {
	name  string
	call  func(api.Interval) (api.Interval, api.Errno)
	point func(float64) (api.Interval, api.Errno)
	want  func(float64) *big.Float
	ahead float64
}

func waves() []wave {
	return []wave{{"SpanSin", trig.SpanSin, trig.Sin, sineOf, 0}, {"SpanCos", trig.SpanCos, trig.Cos, cosineOf, 1}}
}

func (w wave) check(t *testing.T, x, want api.Interval) {
	t.Helper()
	if got, err := w.call(x); !same(got, want) || err != api.OK {
		t.Errorf("%s(%x) = %x, %v, want %x", w.name, x, got, err, want)
	}
}

// peak tells whether a number of x is so many quarter turns, and a whole number of whole turns.
func peak(x api.Interval, quarters float64) bool {
	turns := func(end float64) *big.Float {
		y := long(0).Quo(long(end), halfPi())
		y.Sub(y, long(quarters))
		return y.SetMantExp(y, -2)
	}
	low, high := turns(x.Lo), turns(x.Hi)
	first := floorOf(low.Neg(low)) // turned round
	return first.Neg(first).Cmp(floorOf(high)) <= 0
}

// expected is the answer by the tests' own way: the ends, and whether the greatest or the least value lies between.
func (w wave) expected(x api.Interval) api.Interval {
	if math.IsInf(x.Lo, 0) || math.IsInf(x.Hi, 0) {
		return whole
	}
	first, last := tightest(w.want(x.Lo)), tightest(w.want(x.Hi))
	s := api.Interval{Lo: min(first.Lo, last.Lo), Hi: max(first.Hi, last.Hi)}
	if peak(x, 1-w.ahead) {
		s.Hi = 1
	}
	if peak(x, 3-w.ahead) {
		s.Lo = -1
	}
	return s
}

func TestTR2WrittenOut(t *testing.T) {
	list := waves()
	for i, rows := range [][][2]api.Interval{
		{ // SpanSin
			{{Lo: 1, Hi: 2}, {Lo: math.Float64frombits(0x3feaed548f090cee), Hi: 1}}, {{Lo: -2, Hi: -1}, {Lo: -1, Hi: -math.Float64frombits(0x3feaed548f090cee)}},
			{{Lo: 0, Hi: 1}, {Lo: 0, Hi: math.Float64frombits(0x3feaed548f090cef)}}, {{Lo: -1, Hi: 0}, {Lo: -math.Float64frombits(0x3feaed548f090cef), Hi: 0}}, {only(0), only(0)},
			{{Lo: 0, Hi: math.Pi}, {Lo: 0, Hi: 1}}, {{Lo: 0, Hi: math.Nextafter(math.Pi, 4)}, {Lo: -0x1.72cece675d1fdp-52, Hi: 1}}, {{Lo: -2, Hi: 2}, whole}, {{Lo: 4, Hi: 5}, {Lo: -1, Hi: -0.7568024953079282}},
			{{Lo: math.Pi / 2, Hi: 2}, {Lo: 0.9092974268256816, Hi: 1}}, {{Lo: -least, Hi: least}, {Lo: -least, Hi: least}}, {{Lo: 0, Hi: 6}, whole}, {span.All(), whole}, {{Lo: -inf, Hi: -most}, whole}, {{Lo: 0, Hi: inf}, whole}, {{Lo: -most, Hi: most}, whole},
		},
		{ // SpanCos
			{span.All(), whole}, {only(0), only(1)}, {{Lo: -1, Hi: 0.5}, {Lo: 0.5403023058681397, Hi: 1}}, {{Lo: 0, Hi: 1}, {Lo: 0.5403023058681397, Hi: 1}}, {{Lo: -1, Hi: 0}, {Lo: 0.5403023058681397, Hi: 1}},
			{{Lo: -least, Hi: least}, {Lo: 1 - 0x1p-53, Hi: 1}}, {{Lo: 3, Hi: 4}, {Lo: -1, Hi: -0.6536436208636118}}, {{Lo: -4, Hi: -3}, {Lo: -1, Hi: -0.6536436208636118}}, {{Lo: 1, Hi: 2}, {Lo: -0.4161468365471424, Hi: 0.5403023058681398}},
			{{Lo: 6, Hi: 7}, {Lo: 0.7539022543433046, Hi: 1}}, {{Lo: 0, Hi: 4}, whole}, {{Lo: most, Hi: inf}, whole}, {{Lo: -inf, Hi: 0}, whole}, {{Lo: 1e300, Hi: 2e300}, whole},
		},
	} {
		for _, row := range rows {
			list[i].check(t, row[0], row[1])
		}
	}
}

func TestTR2Wrong(t *testing.T) {
	for _, x := range []api.Interval{
		{Lo: 1, Hi: 0}, {Lo: nan, Hi: 1}, {Lo: 1, Hi: nan}, {Lo: nan, Hi: nan}, {Lo: inf, Hi: inf}, {Lo: -inf, Hi: -inf}, {Lo: inf, Hi: -inf}, {Lo: 0, Hi: -inf}, {Lo: inf, Hi: 0},
		{Lo: minus, Hi: 0}, {Lo: 0, Hi: minus}, {Lo: minus, Hi: 1}, {Lo: -1, Hi: minus}, {Lo: minus, Hi: minus}, {Lo: minus, Hi: 10}, {Lo: -10, Hi: minus}, {Lo: minus, Hi: inf}, {Lo: least, Hi: 0}, {Lo: nan, Hi: inf}, {Lo: -inf, Hi: nan}, {Lo: 20, Hi: 1},
	} {
		for _, w := range waves() {
			if s, err := w.call(x); !same(s, nothing) || err != api.ErrArg {
				t.Errorf("%s(%v) = %x, %v", w.name, x, s, err)
			}
		}
	}
}

// of is an interval from one of two floats to the other.
func of(a, b float64) api.Interval {
	s, _ := span.Of(min(a, b), max(a, b))
	return s
}

// spans are intervals of a list's floats: between some of them, around one alone, from one to its neighbour, and from one on as far as some quarter turns, a little more or less, and to where surely all values lie.
func spans(list []float64) []api.Interval {
	var all []api.Interval
	r := numbers{7}
	for i, x := range list {
		y := list[(i*7+3)%len(list)]
		all = append(all, of(x, y), of(x, x), of(x, math.Nextafter(x, inf)), of(x, x+float64(r.word()%1000)/100), of(x, 0), of(x, inf), of(-inf, x))
		turns, _ := consts.Times(1 + i%5)
		all = append(all, of(x, x+turns.Lo), of(x, x+turns.Hi), of(x, x+7), of(x, math.Nextafter(x+7, -inf)))
	}
	return all
}

// shortened is every so manieth float of a list.
func shortened(list []float64, every int) []float64 {
	var some []float64
	for i := 0; i < len(list); i += every {
		some = append(some, list[i])
	}
	return some
}

// TestTR2P6: held against the tests' own way.
func TestTR2P6(t *testing.T) {
	for what, list := range map[string][]float64{"edges": shortened(edges(), 3), "turns": turns(), "hard": shortened(hard(), 2), "ordinary": shortened(ordinary(), 3)} {
		t.Run(what, func(t *testing.T) {
			t.Parallel()
			for _, x := range spans(list) {
				for _, w := range waves() {
					w.check(t, x, w.expected(x))
				}
			}
		})
	}
}

// TestTR2Peaks: an interval between two neighbours, with whole quarter turns between them, has the greatest value, or the least one; that of either alone has it not, but where it rounds to it.
func TestTR2Peaks(t *testing.T) {
	for n := -40; n <= 40; n++ {
		x, _ := consts.Times(n)
		for _, w := range waves() {
			kind := (n + int(w.ahead)) & 3
			s, err := w.call(x)
			if err != api.OK || kind == 1 && s.Hi != 1 || kind == 3 && s.Lo != -1 || kind%2 == 0 && (s.Lo > 0 || s.Hi < 0) {
				t.Errorf("%s of %d quarter turns, %x, is %x, %v", w.name, n, x, s, err)
			}
		}
	}
}

// TestTR3Turns: from a whole turn on all values are there, and just below it not, where the ends are not near the greatest or the least.
func TestTR3Turns(t *testing.T) {
	turn, _ := consts.Tight(consts.TwoPi)
	for x := -20.0; x < 20; x += 0.125 {
		for _, end := range []float64{math.Nextafter(x+turn.Hi, inf), x + 6.5, x + 7, x + 7.5, x + 100, x + 1e20, most, inf} {
			for _, w := range waves() {
				w.check(t, of(x, end), whole)
				w.check(t, of(-x, -end), whole)
			}
		}
	}
	for _, w := range waves() {
		if s, _ := w.call(of(math.Pi/2*(1-w.ahead)+0.01, turn.Lo+math.Pi/2*(1-w.ahead)-0.01)); s.Lo != -1 || s.Hi > 0.99996 {
			t.Errorf("%s of less than a turn is %x", w.name, s)
		}
	}
}

// TestTR3Within: what lies in an interval has its values in those of the interval, all between -1 and 1.
func TestTR3Within(t *testing.T) {
	list := spans(append(shortened(ordinary(), 150), 0, 1.5, 1.6, 3.1, 3.2, -1.5, 1e22, math.Pi))
	for _, w := range waves() {
		values := make([]api.Interval, len(list))
		for i, x := range list {
			values[i], _ = w.call(x)
			if !span.Valid(values[i]) || !span.Within(values[i], whole) {
				t.Errorf("%s(%x) = %x", w.name, x, values[i])
			}
		}
		for i, a := range list {
			for k, b := range list {
				if span.Within(a, b) && !span.Within(values[i], values[k]) {
					t.Errorf("%s(%x) = %x is not in that of %x, %x", w.name, a, values[i], b, values[k])
				}
			}
		}
	}
}

// TestTR3Holds: an interval's values hold those of each of its floats.
func TestTR3Holds(t *testing.T) {
	r := numbers{8}
	for _, x := range spans(shortened(ordinary(), 12)) {
		for _, w := range waves() {
			s, _ := w.call(x)
			for range 4 {
				part := float64(r.word()>>11) / (1 << 53)
				f := min(max(max(x.Lo, -1e10)*(1-part)+min(x.Hi, 1e10)*part, x.Lo), x.Hi)
				one, err := w.point(f)
				if err != api.OK && !math.IsInf(f, 0) || err == api.OK && !span.Within(one, s) {
					t.Errorf("%s(%x) = %x, and of %x it is %x, %v", w.name, x, s, f, one, err)
				}
			}
		}
	}
}

// TestTR2One: of a float alone it is what the float's own function tells.
func TestTR2One(t *testing.T) {
	for _, x := range append(all(), 0) {
		for _, w := range waves() {
			want, _ := w.point(x)
			w.check(t, only(x), want)
		}
	}
}
