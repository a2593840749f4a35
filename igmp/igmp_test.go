package igmp

import (
	"bytes"
	"math"
	"slices"
	"testing"

	"wharf/api"
)

const (
	g1 = api.Addr(0xe0010101)
	g2 = api.Addr(0xe0010102)
	g3 = api.Addr(0xe0010103)
)

func report(g api.Addr) []api.IGMP { return []api.IGMP{{Type: api.Report, Group: g}} }

func TestP10_1Messages(t *testing.T) {
	b, err := Encode(api.IGMP{Type: 0x16, Max: 5, Group: 0xe1020304})
	if err != api.OK || !bytes.Equal(b, []byte{0x16, 5, 0x05, 0xf4, 0xe1, 2, 3, 4}) {
		t.Errorf("% x, %v", b, err)
	}
	for _, m := range []api.IGMP{{Type: -1}, {Type: 256}, {Max: -1}, {Max: 256}} {
		if b, err := Encode(m); err != api.ErrArg || len(b) != 0 {
			t.Error(m, err)
		}
	}
	if m, err := Decode(b); err != api.OK || m != (api.IGMP{Type: 0x16, Max: 5, Group: 0xe1020304}) {
		t.Error(m, err)
	}
	if m, err := Decode(b[:7]); err != api.ErrShort || m != (api.IGMP{}) {
		t.Error(m, err)
	}
	if m, err := Decode(append(bytes.Clone(b), 0, 1)); err != api.ErrSum || m != (api.IGMP{}) {
		t.Error("the bytes behind the eighth count for the sum:", m, err)
	}
	if m, err := Decode(append(bytes.Clone(b), 0, 0)); err != api.OK || m.Max != 5 {
		t.Error(m, err)
	}
	b[5]++
	if m, err := Decode(b); err != api.ErrSum || m != (api.IGMP{}) {
		t.Error(m, err)
	}
}

func TestP10_2Join(t *testing.T) {
	var h Host
	for _, g := range []api.Addr{0, api.Group - 1, api.Group, api.Group + 1, 0xf0000000, api.Broadcast} {
		if l, err := h.Join(g, 0, 0); err != api.ErrArg || len(l) != 0 {
			t.Error(g, err)
		}
	}
	if l, err := h.Join(g1, 5, 3); err != api.OK || !slices.Equal(l, report(g1)) {
		t.Error(l, err)
	}
	if l, err := h.Join(g1, 5, 3); err != api.ErrExists || len(l) != 0 {
		t.Error(l, err)
	}
	if l := h.Tick(8); len(l) != 0 {
		t.Error(l)
	}
	if l := h.Tick(9); !slices.Equal(l, report(g1)) {
		t.Error(l)
	}
	if l := h.Tick(99); len(l) != 0 {
		t.Error(l)
	}
	if _, err := h.Join(api.Group+2, 0, 0); err != api.OK {
		t.Error(err)
	}
	if _, err := h.Join(0xefffffff, 0, 0); err != api.OK {
		t.Error(err)
	}
	for i := range 13 {
		h.Join(g2+api.Addr(i), 0, 0)
	}
	if l, err := h.Join(g1, 0, 0); err != api.ErrExists || len(l) != 0 {
		t.Error("full before there already:", err)
	}
	if l, err := h.Join(0xe0500000, 0, 0); err != api.ErrFull || len(l) != 0 || len(h.Groups()) != 16 {
		t.Error(l, err)
	}
}

func TestP10_2Delays(t *testing.T) {
	for _, c := range []struct{ number, draw, due int }{{0, 0, 1}, {0, 9, 10}, {0, 10, 1}, {2, 9, 2}, {1, -5, 2}, {2, math.MaxInt, 1 + (math.MaxInt%10+2)%10}} {
		var h Host
		for i := range c.number {
			h.Join(api.Group+2+api.Addr(i), 100000, 0)
		}
		h.Join(g1, 1000, c.draw)
		if l := h.Tick(1000 + c.due - 1); len(l) != 0 {
			t.Error(c, "too early")
		}
		if l := h.Tick(1000 + c.due); !slices.Equal(l, report(g1)) {
			t.Error(c, l)
		}
	}
	var h Host
	h.Join(g1, math.MaxInt-1, 9)
	if len(h.Tick(math.MaxInt-1)) != 0 || len(h.Tick(math.MaxInt)) != 1 {
		t.Error("the sum wraps")
	}
}

func TestP10_3Leave(t *testing.T) {
	var h Host
	if l, err := h.Leave(g1); err != api.ErrNone || len(l) != 0 {
		t.Error(l, err)
	}
	h.Join(g1, 0, 0)
	if l, err := h.Leave(g1); err != api.OK || !slices.Equal(l, []api.IGMP{{Type: api.Leave, Group: g1}}) {
		t.Error(l, err)
	}
	if l, err := h.Leave(g1); err != api.ErrNone || len(l) != 0 || len(h.Tick(99)) != 0 {
		t.Error(l, err)
	}
	h.Join(g1, 0, 0)
	h.Hear(report(g1)[0], 0, 0)
	if l, err := h.Leave(g1); err != api.OK || len(l) != 0 {
		t.Error("another host was the last:", l, err)
	}
}

func TestP10_4Queries(t *testing.T) {
	var h Host
	h.Join(g1, 0, 0)
	h.Join(g3, 0, 0)
	h.Tick(50)
	h.Hear(api.IGMP{Type: api.Query, Max: 20}, 100, 7)
	if l := h.Tick(107); len(l) != 0 {
		t.Error(l)
	}
	if l := h.Tick(108); !slices.Equal(l, report(g1)) {
		t.Error(l)
	}
	if l := h.Tick(109); !slices.Equal(l, report(g3)) {
		t.Error(l)
	}
	h.Hear(api.IGMP{Type: api.Query, Group: g3, Max: 0}, 200, 98)
	if l := h.Tick(299); len(l) != 0 {
		t.Error(l)
	}
	if l := h.Tick(300); !slices.Equal(l, report(g3)) {
		t.Error(l)
	}
	h.Hear(api.IGMP{Type: api.Query, Group: g2, Max: 5}, 300, 0)
	h.Hear(api.IGMP{Type: api.Query, Max: 256}, 300, 0)
	h.Hear(api.IGMP{Type: api.Leave, Group: g1}, 300, 0)
	h.Hear(api.IGMP{Type: 0x12, Group: g1}, 300, 0)
	if l := h.Tick(9999); len(l) != 0 {
		t.Error("a timer is set by what concerns nobody:", l)
	}
}

func TestP10_4NoMax(t *testing.T) {
	var h Host
	h.Join(g1, 0, 0)
	h.Tick(50)
	h.Hear(api.IGMP{Type: api.Query}, 100, 100)
	if len(h.Tick(100)) != 0 || len(h.Tick(101)) != 1 {
		t.Error("a delay of a hundred and none more")
	}
}

func TestP10_4TimersThatRemain(t *testing.T) {
	var h Host
	h.Join(g1, 0, 4)
	h.Hear(api.IGMP{Type: api.Query, Max: 100}, 0, 50)
	if len(h.Tick(4)) != 0 || len(h.Tick(5)) != 1 {
		t.Error("an earlier timer does not remain")
	}
	h.Hear(api.IGMP{Type: api.Query, Max: 100}, 10, 50)
	h.Hear(api.IGMP{Type: api.Query, Max: 100}, 10, 20)
	if len(h.Tick(30)) != 0 || len(h.Tick(31)) != 1 || len(h.Tick(61)) != 0 {
		t.Error("a later timer remains")
	}
	h.Hear(api.IGMP{Type: api.Query, Max: 1}, 100, 77)
	if len(h.Tick(100)) != 0 || len(h.Tick(101)) != 1 {
		t.Error("a delay of one")
	}
}

func TestP10_4Reports(t *testing.T) {
	var h Host
	h.Join(g1, 0, 0)
	h.Tick(50)
	h.Hear(report(g1)[0], 60, 0)
	if l, _ := h.Leave(g1); len(l) != 1 {
		t.Error("a Report without a timer changes who was last")
	}
	h.Join(g1, 0, 0)
	h.Tick(50)
	h.Hear(api.IGMP{Type: api.Query}, 100, 7)
	h.Hear(report(g2)[0], 100, 0)
	h.Hear(api.IGMP{Type: api.Report, Max: -1, Group: g1}, 100, 0)
	h.Hear(report(g1)[0], 100, 0)
	if l := h.Tick(999); len(l) != 0 {
		t.Error(l)
	}
	h.Hear(api.IGMP{Type: api.Query}, 1000, 7)
	h.Tick(2000)
	if l, _ := h.Leave(g1); len(l) != 1 {
		t.Error("a Tick that reports makes us the last")
	}
}

func TestP10_5Order(t *testing.T) {
	var h Host
	for _, g := range []api.Addr{g3, g1, g2} {
		h.Join(g, 0, 0)
	}
	if got := h.Groups(); !slices.Equal(got, []api.Addr{g1, g2, g3}) {
		t.Error(got)
	}
	l := h.Tick(100)
	if !slices.Equal(l, append(append(report(g1), report(g2)...), report(g3)...)) || len(h.Tick(100)) != 0 {
		t.Error(l)
	}
	h.Groups()[0] = 0
	if h.Groups()[0] != g1 {
		t.Error("Groups hands out what is kept")
	}
}

func TestP10_6Bounds(t *testing.T) {
	var h Host
	for i := range 100 {
		h.Join(g1+api.Addr(i*7%31), i, i)
		h.Hear(api.IGMP{Type: api.Query, Max: 3}, i, i)
		seen := map[api.Addr]int{}
		for _, m := range h.Tick(i + 5) {
			if seen[m.Group]++; seen[m.Group] > 1 {
				t.Fatal("two Reports of one group")
			}
		}
		if len(h.Groups()) > api.MaxGroups {
			t.Fatal(len(h.Groups()))
		}
	}
	for n := range 256 {
		m := api.IGMP{Type: n, Max: 255 - n, Group: api.Addr(n) * 16843009}
		b, _ := Encode(m)
		if got, err := Decode(b); err != api.OK || got != m {
			t.Error(got, err)
		}
	}
}

func TestP10_7Nil(t *testing.T) {
	var h *Host
	h.Hear(api.IGMP{Type: api.Query}, 0, 0)
	if l, err := h.Join(g1, 0, 0); err != api.ErrArg || len(l) != 0 {
		t.Error(err)
	}
	if l, err := h.Leave(g1); err != api.ErrArg || len(l) != 0 {
		t.Error(err)
	}
	if len(h.Tick(5)) != 0 || len(h.Groups()) != 0 {
		t.Error("a nil Host")
	}
	var zero Host
	if len(zero.Tick(5)) != 0 || len(zero.Groups()) != 0 {
		t.Error("a zero Host")
	}
}
