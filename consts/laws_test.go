package consts_test

import (
	"fmt"
	"math"
	"slices"
	"testing"

	"cusp/consts"
)

// answers are all that the package tells of two numbers.
func answers(a, b int) string {
	tight, err := consts.Tight(a)
	times, err2 := consts.Times(a)
	text, err3 := consts.Digits(a, b)
	p, q, err4 := consts.Best(a, b)
	return fmt.Sprintf("%x %v %x %v %s %v %d %d %v", tight, err, times, err2, text, err3, p, q, err4)
}

// TestP1P2: every call ends, whatever it is given, and answers the same when it is asked again.
func TestP1P2(t *testing.T) {
	list := append(kinds(), wrongKinds()...)
	list = append(list, 17, 355, 999, 1000, 1001, 1<<30-1, 1<<30, 1<<30+1, -1<<30, math.MaxInt-1, math.MinInt+1)
	var first []string
	for _, a := range list {
		for _, b := range list {
			first = append(first, answers(a, b))
		}
	}
	at := len(first)
	for _, a := range slices.Backward(list) {
		for _, b := range slices.Backward(list) {
			at--
			if got := answers(a, b); got != first[at] {
				t.Errorf("%d and %d: %s, and before %s", a, b, got, first[at])
			}
		}
	}
}
