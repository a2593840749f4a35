package clock

import (
	"math"
	"testing"
)

func seen(t *testing.T, c *Clock, smooth, vary, wait int) {
	t.Helper()
	if s, v := c.Seen(); s != smooth || v != vary || c.Wait() != wait {
		t.Errorf("smooth %d, vary %d, wait %d", s, v, c.Wait())
	}
}

func TestP15_1Sample(t *testing.T) {
	var c Clock
	seen(t, &c, 0, 0, 30)
	c.Sample(20)
	seen(t, &c, 160, 40, 60)
	c.Sample(12)
	seen(t, &c, 152, 38, 57)
	c.Sample(30)
	seen(t, &c, 163, 40, 60)
	c.Sample(21)
	seen(t, &c, 164, 31, 51)
	for _, r := range []int{1, 0, -7, math.MinInt} {
		var c Clock
		c.Sample(r)
		seen(t, &c, 8, 2, 10)
		c.Sample(r)
		seen(t, &c, 8, 2, 10)
	}
	for _, r := range []int{1 << 20, 1<<20 + 1, math.MaxInt} {
		var c Clock
		c.Sample(r)
		seen(t, &c, 8<<20, 2<<20, 600)
		c.Sample(r)
		seen(t, &c, 8<<20, 3<<19, 600)
	}
}

func TestP15_2Wait(t *testing.T) {
	for _, w := range []struct{ r, wait int }{{1, 10}, {3, 10}, {4, 12}, {5, 15}, {199, 597}, {200, 600}, {201, 600}} {
		var c Clock
		c.Sample(w.r)
		if c.Wait() != w.wait {
			t.Error(w, c.Wait())
		}
	}
	var c Clock
	for range 50 {
		c.Sample(15)
	}
	if _, vary := c.Seen(); c.Wait() != 15+max(vary, 1) {
		t.Error(c.Wait())
	}
	c = Clock{}
	c.Sample(1)
	c.Back()
	if c.Wait() != 20 {
		t.Error("it is doubled before it is limited:", c.Wait())
	}
}

func TestP15_3Back(t *testing.T) {
	var c Clock
	for _, want := range []int{60, 120, 240, 480, 600, 600, 600} {
		c.Back()
		if c.Wait() != want {
			t.Error(c.Wait(), want)
		}
	}
	c.Calm()
	seen(t, &c, 0, 0, 30)
	c.Back()
	c.Sample(20)
	seen(t, &c, 160, 40, 60)
	c.Back()
	c.Back()
	if c.Wait() != 240 {
		t.Error(c.Wait())
	}
	c.Sample(12)
	seen(t, &c, 152, 38, 57)
	for range 1000000 {
		c.Back()
	}
	if c.Wait() != 600 {
		t.Error(c.Wait())
	}
	c.Calm()
	seen(t, &c, 152, 38, 57)
}

func TestP15_4Range(t *testing.T) {
	x := uint32(1)
	var c Clock
	for i := range 5000 {
		x = x*1664525 + 1013904223
		switch n := int(x >> 8); n % 5 {
		case 0, 1:
			c.Sample(n % (1 + n%3000))
		case 2, 3:
			c.Back()
		default:
			c.Calm()
		}
		if w := c.Wait(); w < 10 || w > 600 {
			t.Fatal(i, w)
		}
	}
	for _, r := range []int{1, 7, 100, 5000} {
		var c Clock
		for range 200 {
			c.Sample(r)
			if s, _ := c.Seen(); s != 8*r {
				t.Fatal(r, s)
			}
		}
		if _, v := c.Seen(); v >= 4 {
			t.Error(r, v)
		}
	}
}

func TestP15_5Nil(t *testing.T) {
	var c *Clock
	c.Sample(5)
	c.Back()
	c.Calm()
	if s, v := c.Seen(); s != 0 || v != 0 || c.Wait() != 30 {
		t.Error("a nil Clock")
	}
	var a, b Clock
	for i := range 20 {
		a.Sample(i * 3)
		b.Sample(i * 3)
	}
	if a != b {
		t.Error("two Clocks of the same calls")
	}
}
