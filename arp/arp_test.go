package arp

import (
	"bytes"
	"math"
	"slices"
	"testing"

	"wharf/api"
)

var (
	m1 = api.MAC{2, 0, 0, 0, 0, 1}
	m2 = api.MAC{2, 0, 0, 0, 0, 2}
)

func same(a, b [][]byte) bool {
	return slices.EqualFunc(a, b, bytes.Equal)
}

func TestP5_1Packets(t *testing.T) {
	p := api.ARP{Op: 2, FromMAC: m1, From: 0x0a000001, ToMAC: m2, To: 0x0a000002}
	b, err := Encode(p)
	want := []byte{0, 1, 8, 0, 6, 4, 0, 2, 2, 0, 0, 0, 0, 1, 10, 0, 0, 1, 2, 0, 0, 0, 0, 2, 10, 0, 0, 2}
	if err != api.OK || !bytes.Equal(b, want) {
		t.Errorf("% x, %v", b, err)
	}
	for _, op := range []int{0, 3, -1, 65537, 258} {
		if b, err := Encode(api.ARP{Op: op}); err != api.ErrArg || len(b) != 0 {
			t.Error(op, err)
		}
	}
	if q, err := Decode(append(bytes.Clone(want), 1, 2, 3)); err != api.OK || q != p {
		t.Error(q, err)
	}
	if q, err := Decode(want[:27]); err != api.ErrShort || q != (api.ARP{}) {
		t.Error(q, err)
	}
	for i := range 8 {
		x := bytes.Clone(want)
		x[i] ^= 0x10
		if q, err := Decode(x); err != api.ErrForm || q != (api.ARP{}) {
			t.Error(i, q, err)
		}
	}
	for op := range 5 {
		x := bytes.Clone(want)
		x[7] = byte(op)
		if _, err := Decode(x); (err == api.OK) != (op == 1 || op == 2) {
			t.Error(op, err)
		}
	}
}

func TestP5_2Send(t *testing.T) {
	var c Cache
	p, q := []byte{1}, []byte{2}
	if got := c.Send(7, p, 0); got != (api.Told{Ask: true}) || c.Len() != 1 {
		t.Error(got)
	}
	if got := c.Send(7, q, 1); got != (api.Told{}) {
		t.Error(got)
	}
	if got := c.Learn(7, m1, 2, false); !same(got, [][]byte{p, q}) {
		t.Error(got)
	}
	if got := c.Send(7, p, 601); got != (api.Told{Known: true, MAC: m1}) {
		t.Error(got)
	}
	if got := c.Learn(7, m2, 2, false); len(got) != 0 {
		t.Error("what waited comes twice", got)
	}
	if got := c.Send(7, p, 3); got != (api.Told{Known: true, MAC: m2}) {
		t.Error(got)
	}
	if got := c.Send(7, q, 602); got != (api.Told{Ask: true}) || c.Len() != 1 {
		t.Error("an expired neighbour:", got)
	}
	if got := c.Learn(7, m1, 603, false); !same(got, [][]byte{q}) {
		t.Error(got)
	}
}

func TestP5_2OnlySoManyWait(t *testing.T) {
	var c Cache
	for i := range 6 {
		c.Send(7, []byte{byte(i)}, 0)
	}
	if got := c.Learn(7, m1, 0, true); !same(got, [][]byte{{3}, {4}, {5}}) {
		t.Error(got)
	}
}

func TestP5_2Full(t *testing.T) {
	var c Cache
	for a := range api.Addr(16) {
		c.Send(a, nil, 0)
	}
	if got := c.Send(99, []byte{1}, 0); got != (api.Told{Full: true}) || c.Len() != 16 {
		t.Error(got, c.Len())
	}
	if got := c.Learn(99, m1, 0, true); len(got) != 0 || c.Len() != 16 {
		t.Error("learnt without room")
	}
	c.Learn(5, m1, 20, false)
	c.Learn(9, m1, 10, false)
	c.Learn(3, m1, 10, false)
	if got := c.Send(99, nil, 30); got != (api.Told{Ask: true}) || c.Len() != 16 {
		t.Error(got, c.Len())
	}
	if c.Send(5, nil, 30).Known != true || c.Send(9, nil, 30).Known != true {
		t.Error("not the first that expires, with the least address, was removed")
	}
	if got := c.Learn(3, m1, 30, false); len(got) != 0 || c.Len() != 16 {
		t.Error("a removed neighbour is there yet")
	}
	if c.Learn(98, m2, 30, true); !c.Send(98, nil, 31).Known || !c.Send(5, nil, 31).Known || c.Len() != 16 {
		t.Error("Learn makes no room")
	}
	if got := c.Send(9, nil, 31); !got.Ask {
		t.Error("9 should have made room:", got)
	}
}

func TestP5_2WhoMakesRoom(t *testing.T) {
	for range 40 {
		var c Cache
		for a := range api.Addr(16) {
			c.Learn(a, m1, 20, true)
		}
		c.Learn(12, m1, 10, true)
		c.Learn(7, m1, 10, true)
		c.Learn(9, m1, 10, true)
		if got := c.Send(99, nil, 30); !got.Ask || c.Len() != 16 {
			t.Fatal(got, c.Len())
		}
		for a := range api.Addr(16) {
			if a != 7 && !c.Send(a, nil, 30).Known {
				t.Fatal("removed:", a)
			}
		}
		if got := c.Send(7, nil, 30); !got.Ask {
			t.Fatal(got)
		}
	}
	var c Cache
	for a := range api.Addr(16) {
		c.Learn(a, m1, int(a), true)
	}
	if got := c.Send(3, nil, 603); !got.Ask || c.Len() != 16 {
		t.Error(got, c.Len())
	}
	if got := c.Learn(0, m2, 603, false); len(got) != 0 || !c.Send(0, nil, 604).Known {
		t.Error("an expired one that is asked for makes no room by itself")
	}
}

func TestP5_3Learn(t *testing.T) {
	var c Cache
	if c.Learn(1, m1, 0, false); c.Len() != 0 {
		t.Error("a stranger is learnt")
	}
	if got := c.Learn(1, m1, 0, true); len(got) != 0 || c.Len() != 1 {
		t.Error(got)
	}
	if got := c.Send(1, nil, 599); !got.Known || got.MAC != m1 {
		t.Error(got)
	}
	c.Learn(1, m2, 500, false)
	if got := c.Send(1, nil, 1099); !got.Known || got.MAC != m2 {
		t.Error(got)
	}
	if got := c.Send(1, nil, 1100); !got.Ask {
		t.Error(got)
	}
}

func TestP5_4Tick(t *testing.T) {
	var c Cache
	c.Send(9, []byte{1}, 0)
	c.Send(4, []byte{1}, 0)
	c.Send(6, []byte{1}, 5)
	type row struct {
		now       int
		ask, lost []api.Addr
	}
	for _, r := range []row{{9, nil, nil}, {10, []api.Addr{4, 9}, nil}, {19, []api.Addr{6}, nil}, {20, []api.Addr{4, 9}, nil}, {29, []api.Addr{6}, nil}, {30, nil, []api.Addr{4, 9}}, {39, nil, []api.Addr{6}}, {99, nil, nil}} {
		ask, lost := c.Tick(r.now)
		if !slices.Equal(ask, r.ask) || !slices.Equal(lost, r.lost) {
			t.Errorf("at %d: %v, %v", r.now, ask, lost)
		}
	}
	if c.Len() != 0 || len(c.Learn(4, m1, 100, false)) != 0 {
		t.Error("a lost neighbour is there yet")
	}
	c.Learn(1, m1, 0, true)
	c.Tick(599)
	if c.Len() != 1 {
		t.Error("it expires too early")
	}
	if ask, lost := c.Tick(600); len(ask) != 0 || len(lost) != 0 || c.Len() != 0 {
		t.Error("it does not expire")
	}
}

func TestP5_4GreatTicks(t *testing.T) {
	var c Cache
	c.Learn(1, m1, math.MaxInt-1, true)
	if got := c.Send(1, nil, math.MaxInt-1); !got.Known {
		t.Error("the sum wraps")
	}
	c.Send(2, nil, math.MaxInt-1)
	if ask, _ := c.Tick(math.MaxInt - 1); len(ask) != 0 {
		t.Error("the sum wraps")
	}
	if ask, _ := c.Tick(math.MaxInt); !slices.Equal(ask, []api.Addr{2}) || c.Len() != 1 {
		t.Error(ask, c.Len())
	}
	c.Send(3, nil, math.MinInt)
	if ask, _ := c.Tick(math.MinInt + 10); !slices.Equal(ask, []api.Addr{3}) {
		t.Error(ask)
	}
}

func TestP5_5Bounds(t *testing.T) {
	var c Cache
	x := uint32(3)
	draw := func(n int) int {
		x = x*1664525 + 1013904223
		return int(x>>8) % n
	}
	wait := map[api.Addr]int{}
	for now := range 5000 {
		a := api.Addr(draw(40))
		switch draw(5) {
		case 0, 1, 2:
			told := c.Send(a, []byte{byte(now)}, now)
			if told.Ask {
				wait[a] = 0
			}
			if !told.Known && !told.Full {
				wait[a]++
			}
		case 3:
			if got := c.Learn(a, m1, now, draw(2) == 0); len(got) > api.MaxPending || len(got) != min(wait[a], api.MaxPending) {
				t.Fatal(len(got), wait[a])
			}
			delete(wait, a)
		default:
			_, lost := c.Tick(now)
			for _, l := range lost {
				delete(wait, l)
			}
		}
		if c.Len() > api.MaxNear {
			t.Fatal(c.Len())
		}
	}
}

func TestP5_6Memory(t *testing.T) {
	var c Cache
	p := append(make([]byte, 0, 9), 1, 2)
	c.Send(1, p, 0)
	p[0] = 9
	c.Send(1, p, 0)
	got := c.Learn(1, m1, 0, false)
	if !same(got, [][]byte{{1, 2}, {9, 2}}) {
		t.Error(got)
	}
	got[1][1] = 7
	if p[1] != 2 {
		t.Error("Learn hands out an argument")
	}
	var none *Cache
	if none.Send(1, nil, 0) != (api.Told{Full: true}) || len(none.Learn(1, m1, 0, true)) != 0 || none.Len() != 0 {
		t.Error("a nil Cache")
	}
	if ask, lost := none.Tick(0); len(ask) != 0 || len(lost) != 0 {
		t.Error("Tick of a nil Cache")
	}
	for op := 1; op < 3; op++ {
		p := api.ARP{Op: op, FromMAC: m2, From: 0xfffffffe, ToMAC: m1, To: 0x80000001}
		b, _ := Encode(p)
		if q, err := Decode(b); err != api.OK || q != p {
			t.Error(q, err)
		}
	}
}
