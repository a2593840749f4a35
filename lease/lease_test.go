package lease

import (
	"bytes"
	"math"
	"strconv"
	"testing"

	"wharf/api"
)

var mac = api.MAC{2, 0, 0, 0, 0, 7}

const (
	mine   = api.Addr(0x0a000005)
	server = api.Addr(0x0a000001)
)

func full() api.Lease {
	return api.Lease{Op: 2, ID: 0x01020304, Yours: mine, Client: mac, Type: api.Acked, Server: server, Asked: 7, Time: 60, Mask: 0xffffff00, Router: 0x0a0000fe, Resolver: 0x0a5b6c35}
}

// head is what stands before the options.
func head() []byte {
	b := make([]byte, 240)
	copy(b, []byte{2, 1, 6, 0, 1, 2, 3, 4})
	copy(b[16:], []byte{10, 0, 0, 5})
	copy(b[28:], mac[:])
	copy(b[236:], []byte{0x63, 0x82, 0x53, 0x63})
	return b
}

func TestP23_1Encode(t *testing.T) {
	b, err := Encode(full())
	want := append(head(), 53, 1, 5, 54, 4, 10, 0, 0, 1, 50, 4, 0, 0, 0, 7, 51, 4, 0, 0, 0, 60, 1, 4, 255, 255, 255, 0, 3, 4, 10, 0, 0, 254, 6, 4, 10, 0x5b, 0x6c, 53, 255)
	if err != api.OK || !bytes.Equal(b, want) {
		t.Errorf("% x, %v", b, err)
	}
	b, err = Encode(api.Lease{Op: 1, Type: 1})
	if err != api.OK || len(b) != 244 || b[0] != 1 || !bytes.Equal(b[240:], []byte{53, 1, 1, 255}) {
		t.Errorf("% x, %v", b, err)
	}
	for i, c := range []api.Lease{{Op: 0, Type: 1}, {Op: 3, Type: 1}, {Op: 1, Type: 0}, {Op: 1, Type: 8}, {Op: 1, Type: 1, Time: -1}, {Op: 1, Type: 1, Time: 1 << 31}} {
		if b, err := Encode(c); err != api.ErrArg || len(b) != 0 {
			t.Error(i, err)
		}
	}
	if _, err := Encode(api.Lease{Op: 2, Type: 7, Time: 1<<31 - 1}); err != api.OK {
		t.Error(err)
	}
}

func TestP23_1Decode(t *testing.T) {
	with := func(options ...byte) []byte { return append(head(), options...) }
	base := api.Lease{Op: 2, ID: 0x01020304, Yours: mine, Client: mac, Type: 5}
	change := func(f func(m *api.Lease)) api.Lease {
		m := base
		f(&m)
		return m
	}
	for i, c := range []struct {
		b    []byte
		want api.Lease
	}{
		{with(53, 1, 5), base},
		{with(53, 1, 5, 255, 53, 1, 2), base},
		{with(0, 0, 53, 1, 2, 0, 53, 1, 5, 255, 9), base},
		{with(53, 1, 5, 53, 2, 1, 1, 53, 0), base},
		{with(53, 1, 5, 54, 3, 1, 2, 3, 54, 5, 1, 2, 3, 4, 5, 77, 4, 1, 2, 3, 4), base},
		{with(53, 1, 5, 54, 4, 1, 2, 3, 4, 54, 4, 9, 9, 9, 9, 54, 5, 1, 2, 3, 4, 5), change(func(m *api.Lease) { m.Server = 0x09090909 })},
		{with(53, 1, 5, 50, 4, 1, 2, 3, 4), change(func(m *api.Lease) { m.Asked = 0x01020304 })},
		{with(53, 1, 5, 50, 8, 1, 2, 3, 4, 1, 2, 3, 4, 1, 8, 1, 2, 3, 4, 1, 2, 3, 4, 51, 8, 1, 2, 3, 4, 1, 2, 3, 4), base},
		{with(53, 1, 5, 3, 8, 1, 2, 3, 4, 5, 6, 7, 8, 6, 5, 1, 2, 3, 4, 5), change(func(m *api.Lease) { m.Router, m.Resolver = 0x01020304, 0x01020304 })},
		{with(53, 1, 5, 3, 3, 1, 2, 3, 6, 0, 1, 4, 255, 0, 0, 0), change(func(m *api.Lease) { m.Mask = 0xff000000 })},
		{with(51, 4, 255, 255, 255, 255, 53, 1, 5), change(func(m *api.Lease) { m.Time = 1<<31 - 1 })},
		{with(51, 4, 128, 0, 0, 0, 53, 1, 5), change(func(m *api.Lease) { m.Time = 1<<31 - 1 })},
		{with(51, 4, 127, 255, 255, 255, 53, 1, 5), change(func(m *api.Lease) { m.Time = 1<<31 - 1 })},
		{with(51, 4, 0, 0, 1, 0, 53, 1, 5), change(func(m *api.Lease) { m.Time = 256 })},
	} {
		if m, err := Decode(c.b); err != api.OK || m != c.want {
			t.Errorf("%d: %v, %v", i, m, err)
		}
	}
	set := func(at int, v byte) []byte {
		b := with(53, 1, 5, 255)
		b[at] = v
		return b
	}
	for i, c := range []struct {
		b    []byte
		want api.Errno
	}{
		{nil, api.ErrShort},
		{set(0, 9)[:239], api.ErrShort},
		{set(0, 0), api.ErrForm},
		{set(0, 3), api.ErrForm},
		{set(1, 2), api.ErrForm},
		{set(2, 5), api.ErrForm},
		{set(3, 5), api.OK},
		{set(236, 0), api.ErrForm},
		{set(239, 0), api.ErrForm},
		{with(), api.ErrForm},
		{with(255, 53, 1, 5), api.ErrForm},
		{with(53, 1, 0), api.ErrForm},
		{with(53, 1, 8), api.ErrForm},
		{with(53, 2, 5, 5), api.ErrForm},
		{with(53, 1, 5, 53, 1, 9), api.ErrForm},
		{with(53), api.ErrShort},
		{with(53, 1), api.ErrShort},
		{with(53, 1, 5, 9, 3, 1, 2), api.ErrShort},
		{with(53, 1, 9, 9), api.ErrShort},
	} {
		m, err := Decode(c.b)
		if err != c.want || err != api.OK && m != (api.Lease{}) {
			t.Errorf("%d: %v, %v", i, m, err)
		}
	}
}

// is holds what was sent against types, and tells the message.
func is(t *testing.T, what string, l []api.Lease, want ...int) api.Lease {
	t.Helper()
	if len(l) != len(want) {
		t.Errorf("%s: %v", what, l)
		return api.Lease{}
	}
	for i, m := range l {
		if m.Type != want[i] || m.Op != 1 || m.Client != mac {
			t.Errorf("%s: %v", what, m)
		}
		return m
	}
	return api.Lease{}
}

func state(t *testing.T, c *Client, want int) {
	t.Helper()
	if c.State() != want {
		t.Errorf("state %d, want %d", c.State(), want)
	}
	if m, ok := c.Has(); ok != (want >= 3) || !ok && m != (api.Lease{}) {
		t.Error("it has", m, ok)
	}
}

// from is a message of a server.
func from(id uint32, kind int, yours, server api.Addr, time int) api.Lease {
	return api.Lease{Op: 2, ID: id, Client: mac, Type: kind, Yours: yours, Server: server, Time: time}
}

// granted is a client that is bound at tick 10, for so many seconds.
func granted(t *testing.T, time int) *Client {
	t.Helper()
	c := New(mac)
	is(t, "Start", c.Start(0, 9), api.Discover)
	is(t, "Offer", c.Hear(from(9, api.Offer, mine, server, 5), 5, 0), api.Request)
	is(t, "Acked", c.Hear(from(9, api.Acked, mine, 0, time), 10, 0))
	state(t, c, 3)
	return c
}

func TestP23_2Start(t *testing.T) {
	c := New(mac)
	state(t, c, 0)
	is(t, "Tick", c.Tick(99, 5))
	is(t, "Hear", c.Hear(from(0, api.Offer, mine, server, 5), 0, 0))
	m := is(t, "Start", c.Start(100, 1<<40+9), api.Discover)
	if m != (api.Lease{Op: 1, ID: 9, Client: mac, Type: api.Discover}) {
		t.Error(m)
	}
	state(t, c, 1)
	is(t, "Start", c.Start(101, 10))
	c = New(mac)
	if m := is(t, "Start", c.Start(0, -1), api.Discover); m.ID != math.MaxUint32 {
		t.Error(m)
	}
}

func TestP23_3Selecting(t *testing.T) {
	c := New(mac)
	c.Start(0, 9)
	other := from(9, api.Offer, mine, server, 5)
	other.Client[5]++
	asks := from(9, api.Offer, mine, server, 5)
	asks.Op = 1
	for i, m := range []api.Lease{from(8, api.Offer, mine, server, 5), other, asks, from(9, api.Offer, 0, server, 5), from(9, api.Offer, mine, 0, 5), from(9, api.Acked, mine, server, 5), from(9, api.Refused, mine, server, 5)} {
		is(t, strconv.Itoa(i), c.Hear(m, 1, 0))
		state(t, c, 1)
	}
	m := is(t, "Offer", c.Hear(from(9, api.Offer, mine, server, 5), 2, 77), api.Request)
	if m != (api.Lease{Op: 1, ID: 9, Client: mac, Type: api.Request, Asked: mine, Server: server}) {
		t.Error(m)
	}
	state(t, c, 2)
	is(t, "another Offer", c.Hear(from(9, api.Offer, mine+1, server, 5), 3, 0))
	is(t, "early", c.Tick(41, 0))
	m = is(t, "again", c.Tick(42, 0), api.Request)
	if m.Asked != mine || m.Server != server {
		t.Error(m)
	}
}

func TestP23_3Requesting(t *testing.T) {
	c := New(mac)
	c.Start(0, 9)
	c.Hear(from(9, api.Offer, mine, server, 5), 2, 77)
	is(t, "another address", c.Hear(from(9, api.Acked, mine+1, server, 5), 3, 0))
	state(t, c, 2)
	m := is(t, "Refused", c.Hear(from(9, api.Refused, 0, 0, 0), 3, 11), api.Discover)
	if m.ID != 11 {
		t.Error(m)
	}
	state(t, c, 1)
	is(t, "the old ID", c.Hear(from(9, api.Offer, mine, server, 5), 3, 0))
	c.Hear(from(11, api.Offer, mine, server, 5), 4, 0)
	is(t, "Acked", c.Hear(from(11, api.Acked, mine, server+1, 5), 5, 0))
	state(t, c, 3)
	if m, _ := c.Has(); m != from(11, api.Acked, mine, server+1, 5) {
		t.Error(m)
	}
	is(t, "in bound", c.Hear(from(11, api.Refused, mine, server, 5), 6, 0))
	is(t, "in bound", c.Hear(from(11, api.Acked, mine, server, 50), 6, 0))
	state(t, c, 3)
}

func TestP23_3Times(t *testing.T) {
	for time, want := range map[int]int{0: 3600, -5: 3600, 1: 1, 1<<31 - 1: 1<<31 - 1, 1 << 31: 1<<31 - 1, math.MaxInt: 1<<31 - 1} {
		c := granted(t, time)
		m, _ := c.Has()
		if m.Time != want || m.Server != server || m.Yours != mine {
			t.Error(time, m)
		}
		is(t, "early", c.Tick(10+5*want-1, 0))
		is(t, "half", c.Tick(10+5*want, 0), api.Request)
	}
}

func TestP23_3Renewing(t *testing.T) {
	c := granted(t, 60)
	m := is(t, "renewing", c.Tick(310, 0), api.Request)
	if m != (api.Lease{Op: 1, ID: 9, Client: mac, Type: api.Request, Asked: mine}) {
		t.Error(m)
	}
	state(t, c, 4)
	is(t, "another address", c.Hear(from(9, api.Acked, mine+1, server, 5), 311, 0))
	is(t, "an Offer", c.Hear(from(9, api.Offer, mine, server, 5), 311, 0))
	state(t, c, 4)
	is(t, "Acked", c.Hear(from(9, api.Acked, mine, 0, 100), 320, 0))
	state(t, c, 3)
	if m, _ := c.Has(); m.Server != server || m.Time != 100 {
		t.Error(m)
	}
	is(t, "early", c.Tick(819, 0))
	is(t, "renewing", c.Tick(820, 0), api.Request)
	is(t, "rebinding", c.Tick(1319, 0), api.Request)
	state(t, c, 5)
	m = is(t, "Refused", c.Hear(from(9, api.Refused, 0, 0, 0), 1319, 33), api.Discover)
	state(t, c, 1)
	if m.ID != 33 {
		t.Error(m)
	}
}

func TestP23_4Tries(t *testing.T) {
	c := New(mac)
	c.Start(0, 9)
	for i, at := range []int{40, 120, 240} {
		is(t, "early", c.Tick(at-1, 0))
		if m := is(t, strconv.Itoa(i), c.Tick(at, 5), api.Discover); m.ID != 9 {
			t.Error(m)
		}
	}
	is(t, "early", c.Tick(399, 0))
	if m := is(t, "from the beginning", c.Tick(400, 5), api.Discover); m.ID != 5 {
		t.Error(m)
	}
	c.Hear(from(5, api.Offer, mine, server, 5), 410, 0)
	for _, at := range []int{450, 530, 650} {
		is(t, "early", c.Tick(at-1, 0))
		is(t, "Request", c.Tick(at, 0), api.Request)
	}
	d := New(mac)
	d.Start(0, 9)
	d.Tick(40, 0)
	d.Hear(from(9, api.Offer, mine, server, 5), 50, 0)
	is(t, "Request", d.Tick(90, 0), api.Request)
	is(t, "early", d.Tick(169, 0))
	is(t, "Request", d.Tick(170, 0), api.Request)
	if m := is(t, "given up", c.Tick(810, 6), api.Discover); m.ID != 6 {
		t.Error(m)
	}
	state(t, c, 1)
}

func TestP23_4Lease(t *testing.T) {
	c := granted(t, 60)
	is(t, "early", c.Tick(309, 0))
	is(t, "renewing", c.Tick(310, 0), api.Request)
	is(t, "early", c.Tick(369, 0))
	is(t, "again", c.Tick(370, 0), api.Request)
	is(t, "again", c.Tick(534, 0), api.Request)
	state(t, c, 4)
	is(t, "rebinding", c.Tick(594, 0), api.Request)
	state(t, c, 5)
	is(t, "the last tick", c.Tick(609, 0))
	state(t, c, 5)
	if m := is(t, "lost", c.Tick(610, 12), api.Discover); m.ID != 12 {
		t.Error(m)
	}
	state(t, c, 1)
	c = granted(t, 60)
	is(t, "in bound", c.Tick(610, 12), api.Discover)
	state(t, c, 1)
	c = granted(t, 60)
	is(t, "renewing", c.Tick(609, 0), api.Request)
	state(t, c, 4)
	c = granted(t, 60)
	c.Tick(475, 0)
	is(t, "seven eighths", c.Tick(535, 0), api.Request)
	state(t, c, 5)
	c = New(mac)
	c.Start(0, 9)
	c.Hear(from(9, api.Offer, mine, server, 5), 5, 0)
	c.Hear(from(9, api.Acked, mine, 0, 60), math.MaxInt-5, 0)
	is(t, "the sums wrap", c.Tick(math.MaxInt-1, 0))
	state(t, c, 3)
	is(t, "the greatest tick", c.Tick(math.MaxInt, 0), api.Discover)
}

func TestP23_5Release(t *testing.T) {
	c := granted(t, 60)
	m := is(t, "Release", c.Release(), api.Release)
	if m != (api.Lease{Op: 1, ID: 9, Client: mac, Type: api.Release, Asked: mine, Server: server}) {
		t.Error(m)
	}
	state(t, c, 0)
	is(t, "in idle", c.Release())
	is(t, "in idle", c.Tick(9999, 0))
	is(t, "in idle", c.Hear(from(9, api.Acked, mine, server, 5), 9999, 0))
	is(t, "Start", c.Start(9999, 0), api.Discover)
	is(t, "in selecting", c.Release())
	state(t, c, 0)
	c.Start(0, 9)
	c.Hear(from(9, api.Offer, mine, server, 5), 5, 0)
	is(t, "in requesting", c.Release())
	state(t, c, 0)
	c = granted(t, 60)
	c.Tick(310, 0)
	is(t, "in renewing", c.Release(), api.Release)
	c = granted(t, 60)
	c.Tick(310, 0)
	c.Tick(600, 0)
	state(t, c, 5)
	is(t, "in rebinding", c.Release(), api.Release)
}

func TestP23_6OnlyWhatWasGranted(t *testing.T) {
	x := uint32(1)
	draw := func(n int) int {
		x = x*1664525 + 1013904223
		return int(x>>8) % n
	}
	c := New(mac)
	type grant struct {
		id uint32
		a  api.Addr
	}
	ends := map[grant]int{}
	ids := map[uint32]int{}
	last := uint32(0)
	sent := 0
	for now := range 20000 {
		var l []api.Lease
		if draw(50) == 0 {
			l = append(l, c.Start(now, draw(1<<20))...)
		}
		if draw(4) == 0 {
			m := from(last+uint32(draw(20)/19), []int{api.Offer, api.Acked, api.Refused}[draw(20)%7%3], mine+api.Addr(draw(2)), server, draw(40))
			if m.Type == api.Acked {
				ends[grant{m.ID, m.Yours}] = max(ends[grant{m.ID, m.Yours}], now+10*m.Time)
				if m.Time == 0 {
					ends[grant{m.ID, m.Yours}] = now + 36000
				}
			}
			l = append(l, c.Hear(m, now, draw(1<<20))...)
		}
		if draw(400) == 0 {
			c.Release()
		}
		l = append(l, c.Tick(now, draw(1<<20))...)
		for _, m := range l {
			last = m.ID
			ids[m.ID]++
			sent++
		}
		if m, ok := c.Has(); ok && (ends[grant{m.ID, m.Yours}] <= now || ids[m.ID] == 0) {
			t.Fatal("an address that was not granted, or has expired:", m, now)
		}
	}
	if sent < 100 {
		t.Error(sent)
	}
}

func TestP23_7RoundTripsAndNil(t *testing.T) {
	for i := range 200 {
		m := api.Lease{Op: 1 + i%2, ID: uint32(i) * 77777777, Yours: api.Addr(i), Client: mac, Type: 1 + i%7, Server: api.Addr(i % 3), Asked: api.Addr(i % 5), Time: i % 4 << 20, Mask: api.Addr(i % 2), Router: api.Addr(i%6) << 24, Resolver: api.Addr(i % 9)}
		b, err := Encode(m)
		if err != api.OK {
			t.Fatal(err)
		}
		if got, err := Decode(b); err != api.OK || got != m {
			t.Error(got, m, err)
		}
	}
	var none *Client
	for _, c := range []*Client{none, {}} {
		is(t, "nil", c.Start(0, 0))
		is(t, "nil", c.Hear(full(), 0, 0))
		is(t, "nil", c.Tick(0, 0))
		is(t, "nil", c.Release())
		state(t, c, 0)
	}
	c := New(mac)
	other := *c
	other.Start(0, 9)
	state(t, &other, 1)
	is(t, "a copy", other.Hear(from(9, api.Offer, mine, server, 5), 2, 77), api.Request)
}
