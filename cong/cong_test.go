package cong

import (
	"math"
	"testing"

	"wharf/api"
)

func fresh(t *testing.T, mss int) *Cong {
	t.Helper()
	c, err := New(mss)
	if err != api.OK {
		t.Fatal(err)
	}
	return c
}

func window(t *testing.T, c *Cong, want int, mending bool) {
	t.Helper()
	if c.Window() != want || c.Mending() != mending {
		t.Errorf("window %d, want %d; %v", c.Window(), want, c.Mending())
	}
}

func TestP16_1New(t *testing.T) {
	for _, mss := range []int{0, -1, 65536, math.MaxInt, math.MinInt} {
		if c, err := New(mss); err != api.ErrArg || c != nil {
			t.Error(mss, err)
		}
	}
	window(t, fresh(t, 1), 2, false)
	window(t, fresh(t, 65535), 131070, false)
}

func TestP16_2Open(t *testing.T) {
	c := fresh(t, 100)
	for _, a := range []struct{ n, want int }{{100, 300}, {40, 340}, {500, 440}, {0, 440}, {-9, 440}, {math.MinInt, 440}, {math.MaxInt, 540}} {
		if c.Acked(a.n, 1) {
			t.Error("sent again")
		}
		window(t, c, a.want, false)
	}
	c = fresh(t, 60000)
	c.Acked(5, 1)
	window(t, c, 120000+30000, false)
	c.Acked(5, 1)
	window(t, c, 150000+24000, false)
	c = fresh(t, 1)
	for range 65533 {
		c.Acked(1, 1)
	}
	window(t, c, 65535, false)
	c.Acked(1, 1)
	window(t, c, 65536, false)
}

func TestP16_2Most(t *testing.T) {
	c := fresh(t, 65535)
	for range 100000 {
		c.Acked(1, 1)
	}
	window(t, c, 1<<24, false)
	c = fresh(t, 100)
	for range 3 {
		c.Same(math.MaxInt, 500)
	}
	window(t, c, 1<<24, true)
	c.Same(5, 500)
	window(t, c, 1<<24, true)
	c.Acked(5, 500)
	window(t, c, 1<<24, false)
}

func TestP16_2Recovery(t *testing.T) {
	c := fresh(t, 100)
	c.Acked(100, 1)
	if c.Same(300, 500) || c.Same(300, 500) || c.Mending() || !c.Same(300, 500) {
		t.Error("the third one")
	}
	window(t, c, 500, true)
	if c.Same(300, 900) {
		t.Error("the fourth one")
	}
	window(t, c, 600, true)
	if !c.Acked(100, 400) {
		t.Error("not sent again")
	}
	window(t, c, 600, true)
	if !c.Acked(650, 499) {
		t.Error("not sent again")
	}
	window(t, c, 100, true)
	if !c.Acked(-5, 499) {
		t.Error("not sent again")
	}
	window(t, c, 200, true)
	if !c.Acked(math.MaxInt, 499) {
		t.Error("not sent again")
	}
	window(t, c, 100, true)
	if c.Acked(100, 500) {
		t.Error("sent again behind the recovery")
	}
	window(t, c, 200, false)
	if c.Same(900, 9) || c.Same(900, 9) || !c.Same(900, 9) {
		t.Error("the count begins anew")
	}
	window(t, c, 450+300, true)
	if c.Acked(1, 10) {
		t.Error("a number behind the end of the recovery")
	}
	window(t, c, 450, false)
}

func TestP16_2NumbersGoRound(t *testing.T) {
	c := fresh(t, 100)
	for range 3 {
		c.Same(1000, 5)
	}
	if !c.Acked(10, 0xfffffff0) {
		t.Error("a number before the end of the recovery")
	}
	if c.Acked(10, 5) || c.Mending() {
		t.Error("the end of the recovery")
	}
}

func TestP16_3Same(t *testing.T) {
	for _, f := range []struct{ flight, threshold int }{{0, 200}, {-1, 200}, {math.MinInt, 200}, {401, 200}, {402, 201}, {1000, 500}} {
		c := fresh(t, 100)
		for i := range 3 {
			if c.Same(f.flight, 7) != (i == 2) {
				t.Error(f, i)
			}
		}
		window(t, c, f.threshold+300, true)
	}
	c := fresh(t, 100)
	c.Same(1, 1)
	c.Same(1, 1)
	c.Acked(0, 1)
	if c.Same(1, 1) || c.Same(1, 1) || !c.Same(1, 1) {
		t.Error("an acknowledgement does not end the count")
	}
}

func TestP16_4Lost(t *testing.T) {
	c := fresh(t, 100)
	for range 3 {
		c.Same(1000, 500)
	}
	c.Lost(800)
	window(t, c, 100, false)
	for range 3 {
		c.Acked(100, 1)
	}
	window(t, c, 400, false)
	c.Acked(100, 1)
	window(t, c, 425, false)
	c.Same(1, 1)
	c.Same(1, 1)
	c.Lost(-1)
	window(t, c, 100, false)
	if c.Same(1, 1) || c.Same(1, 1) {
		t.Error("Lost does not end the count")
	}
	c.Acked(100, 1)
	c.Acked(100, 1)
	window(t, c, 250, false)
}

func TestP16_5Range(t *testing.T) {
	x := uint32(1)
	for _, mss := range []int{1, 536, 65535} {
		c := fresh(t, mss)
		for range 20000 {
			x = x*1664525 + 1013904223
			n := int(x >> 8)
			switch n % 9 {
			case 0:
				c.Lost(n)
			case 1, 2, 3, 4:
				c.Acked(n%5000, x)
			default:
				c.Same(n, x)
			}
			if w := c.Window(); w < mss || w > 1<<24 {
				t.Fatal(mss, w)
			}
			if th := c.s.threshold; th < 2*mss && th != 65535 {
				t.Fatal(mss, th)
			}
		}
	}
}

func TestP16_6NilAndCopies(t *testing.T) {
	var none *Cong
	var zero Cong
	for _, c := range []*Cong{none, &zero} {
		c.Lost(5)
		if c.Acked(1, 1) || c.Same(1, 1) || c.Same(1, 1) || c.Same(1, 1) || c.Window() != 0 || c.Mending() {
			t.Error("a nil or zero Cong")
		}
	}
	c := fresh(t, 100)
	other := *c
	other.Acked(100, 1)
	window(t, &other, 300, false)
}
