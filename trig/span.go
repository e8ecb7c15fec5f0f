package trig

import (
	"cusp/api"
	"cusp/round"
	"cusp/span"
)

// long is more than a whole turn.
const long = 7

// overSpan is the least interval that holds what a function, the sine of so many quarter turns more, is of an interval's numbers.
func overSpan(x api.Interval, of func(float64) (api.Interval, api.Errno), ahead uint64) (api.Interval, api.Errno) {
	switch {
	case !span.Valid(x):
		return api.Interval{}, api.ErrArg
	case round.Sub(x.Hi, x.Lo, api.Down) >= long: // also where an end is infinite
		return api.Interval{Lo: -1, Hi: 1}, api.OK
	}
	first, _ := of(x.Lo)
	last, _ := of(x.Hi)
	s := api.Interval{Lo: min(first.Lo, last.Lo), Hi: max(first.Hi, last.Hi)}
	// It rises, or falls, from one whole number of quarter turns to the next: at most five lie between the ends.
	end := floor(x.Hi) + 1
	for n := floor(x.Lo) + 1; n != end; n++ {
		switch (n + ahead) % 4 {
		case 1:
			s.Hi = 1
		case 3:
			s.Lo = -1
		}
	}
	return s, api.OK
}
