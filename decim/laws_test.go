package decim_test

import (
	"math"
	"strconv"
	"strings"
	"testing"

	"cusp/api"
	"cusp/decim"
)

// TestDC6P9Back: what is told is read as the same float.
func TestDC6P9Back(t *testing.T) {
	list := append(floats(9, 4000), inf, -inf)
	for _, f := range append(list, nans()...) {
		short := decim.Shortest(f)
		wantRead(t, short, api.Near, f)
		wantRead(t, digits(t, f, 17, api.Near), api.Near, f)
		for _, mode := range modes {
			wantRead(t, decim.Exact(f), mode, f)
			wantRead(t, decim.Hex(f), mode, f)
		}
		m, _, _ := strings.Cut(short, "e")
		if n := len(strings.Trim(strings.ReplaceAll(m, ".", ""), "-0")); n > 17 {
			t.Errorf("Shortest(%x) = %s: %d digits", f, short, n)
		}
	}
}

// TestDC6Between: what Fixed and Digits tell Down and Up is read with the float between.
func TestDC6Between(t *testing.T) {
	for i, f := range floats(10, 1500) {
		n := 1 + i%40
		for _, tell := range []func(mode int) string{
			func(mode int) string { return fixed(t, f, n, mode) },
			func(mode int) string { return digits(t, f, n, mode) },
		} {
			down, _ := decim.Read(tell(api.Down), api.Down)
			near, _ := decim.Read(tell(api.Near), api.Near)
			up, _ := decim.Read(tell(api.Up), api.Up)
			if !(down <= f && f <= up && down <= near && near <= up) {
				t.Errorf("of %x with %d digits: %x, %x, %x", f, n, down, near, up)
			}
		}
	}
}

// TestDC6Turned: with a minus ahead Read turns round; and the modes rise, alike or neighbours.
func TestDC6Turned(t *testing.T) {
	list := []string{"0", "0.0e5", "inf", "nan", "0x0p1", "1e400", "1e-400", "0x1p-1075", "0x1p1024", "0x1.fffffffffffff8p1023", "9007199254740993", ".1", "3e-324", "2e-324"}
	r := numbers{11}
	for range 3000 {
		list = append(list, r.text(1+r.below(40), "0123456789")+"e"+strconv.Itoa(r.below(700)-360), "0x"+r.text(1+r.below(30), "0123456789abcdef")+"p"+strconv.Itoa(r.below(2400)-1200))
	}
	for _, s := range list {
		var got [3]float64
		for i, mode := range modes {
			f, err := decim.Read(s, mode)
			if err != api.OK {
				t.Fatalf("Read(%q, %d): %v", s, mode, err)
			}
			got[i] = f
			wantRead(t, "+"+s, mode, f)
			wantRead(t, "-"+s, api.Down+api.Up-mode, -f)
		}
		down, near, up := got[0], got[1], got[2]
		if down != down && near != near && up != up {
			continue
		}
		if !(down <= near && near <= up) || down != up && math.Nextafter(down, inf) != up || near != down && near != up {
			t.Errorf("Read(%q): %x, %x, %x", s, down, near, up)
		}
	}
}

// TestP1Total: whatever the text is, there is an answer, and 0 beside an error.
func TestP1Total(t *testing.T) {
	r := numbers{12}
	for i := range 30000 {
		b := make([]byte, r.below(1+i%30))
		for j := range b {
			b[j] = "0123456789+-..eExXpPabcdefinfnan \x00\xff\xc3"[r.below(36)]
			if r.below(50) == 0 {
				b[j] = byte(r.word())
			}
		}
		s := string(b)
		for _, mode := range modes {
			f, err := decim.Read(s, mode)
			if err != api.OK && (err != api.ErrForm || !same(f, 0)) {
				t.Errorf("Read(%q, %d) = %x, %v", s, mode, f, err)
			}
			form := tens.MatchString(s) || sixteens.MatchString(s) || names.MatchString(s)
			if form != (err == api.OK) {
				t.Errorf("Read(%q, %d): %v", s, mode, err)
			}
		}
	}
}

// TestP2Alone: what was asked ahead of a call makes no difference, nor do calls at the same time.
func TestP2Alone(t *testing.T) {
	tell := func(f float64) [6]string {
		out := [6]string{decim.Shortest(f), decim.Exact(f), decim.Hex(f)}
		out[3], _ = decim.Fixed(f, 7, api.Up)
		out[4], _ = decim.Digits(f, 9, api.Down)
		g, err := decim.Read(out[4], api.Up)
		out[5] = strconv.FormatFloat(g, 'x', -1, 64) + err.Error()
		return out
	}
	list := floats(13, 100)
	first := make([][6]string, len(list))
	for i, f := range list {
		first[i] = tell(f)
	}
	done := make(chan bool)
	for range 4 {
		go func() {
			for i := range list {
				j := len(list) - 1 - i
				if got := tell(list[j]); got != first[j] {
					t.Errorf("of %x: %q, and ahead of it %q", list[j], got, first[j])
				}
			}
			done <- true
		}()
	}
	for range 4 {
		<-done
	}
}
