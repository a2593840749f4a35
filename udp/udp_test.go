package udp

import (
	"bytes"
	"math"
	"testing"

	"wharf/api"
)

const (
	a1 = api.Addr(0x0a000001)
	a2 = api.Addr(0x0a000002)
	a3 = api.Addr(0x0a000003)
)

func equal(a, b api.Datagram) bool {
	return a.From == b.From && a.FromPort == b.FromPort && a.To == b.To && a.ToPort == b.ToPort && bytes.Equal(a.Data, b.Data)
}

func TestP11_1Encode(t *testing.T) {
	d := api.Datagram{From: a1, FromPort: 1, To: a2, ToPort: 65535, Data: []byte{1, 2, 3}}
	b, err := Encode(d)
	want := []byte{0, 1, 255, 255, 0, 11, 0xe7, 0xd2, 1, 2, 3}
	if err != api.OK || !bytes.Equal(b, want) {
		t.Errorf("% x, %v", b, err)
	}
	long := make([]byte, 65508)
	for i, c := range []struct {
		d    api.Datagram
		want api.Errno
	}{
		{api.Datagram{FromPort: -1, Data: long}, api.ErrArg},
		{api.Datagram{FromPort: 65536}, api.ErrArg},
		{api.Datagram{ToPort: -1}, api.ErrArg},
		{api.Datagram{ToPort: 65536}, api.ErrArg},
		{api.Datagram{Data: long}, api.ErrLong},
		{api.Datagram{Data: long[:65507]}, api.OK},
	} {
		b, err := Encode(c.d)
		if err != c.want || err != api.OK && len(b) != 0 {
			t.Errorf("%d: %v", i, err)
		}
	}
	// 0x0011 (Proto) and twice 0x000a (length) and the data sum up to ffff.
	zero, _ := Encode(api.Datagram{Data: []byte{0xff, 0xff - 0x25}})
	if zero[6] != 0xff || zero[7] != 0xff {
		t.Errorf("% x", zero)
	}
	if _, err := Decode(0, 0, zero); err != api.OK {
		t.Error(err)
	}
}

func TestP11_1Decode(t *testing.T) {
	d := api.Datagram{From: a1, FromPort: 1, To: a2, ToPort: 65535, Data: []byte{1, 2, 3}}
	b, _ := Encode(d)
	if got, err := Decode(a1, a2, append(bytes.Clone(b), 9, 9)); err != api.OK || !equal(got, d) {
		t.Error(got, err)
	}
	set := func(at int, v byte) []byte {
		x := bytes.Clone(b)
		x[at] = v
		return x
	}
	unsummed := set(8, 77)
	unsummed[6], unsummed[7] = 0, 0
	for i, c := range []struct {
		b    []byte
		want api.Errno
	}{
		{nil, api.ErrShort},
		{set(5, 7)[:7], api.ErrShort},
		{set(5, 7), api.ErrForm},
		{set(5, 0), api.ErrForm},
		{set(5, 12), api.ErrShort},
		{b[:10], api.ErrShort},
		{set(4, 255), api.ErrShort},
		{set(8, 77), api.ErrSum},
		{set(7, 77), api.ErrSum},
		{set(5, 8), api.ErrSum},
		{unsummed, api.OK},
	} {
		got, err := Decode(a1, a2, c.b)
		if err != c.want || err != api.OK && !equal(got, api.Datagram{}) {
			t.Errorf("%d: %v, want %v", i, err, c.want)
		}
	}
	if _, err := Decode(a1, a3, b); err != api.ErrSum {
		t.Error("the addresses are not summed:", err)
	}
	if _, err := Decode(a3, a2, b); err != api.ErrSum {
		t.Error("the addresses are not summed:", err)
	}
}

func TestP11_2Bind(t *testing.T) {
	var p Ports
	for i, c := range []struct {
		id   int
		a    api.Addr
		port int
		want api.Errno
	}{
		{-1, api.Any, 53, api.ErrArg},
		{1, api.Any, 0, api.ErrArg},
		{1, api.Any, 65536, api.ErrArg},
		{1, api.Any, -1, api.ErrArg},
		{1, api.Any, 53, api.OK},
		{1, api.Any, 54, api.ErrExists},
		{1, api.Any, 0, api.ErrArg},
		{2, a1, 53, api.ErrInUse},
		{2, api.Any, 53, api.ErrInUse},
		{2, a1, 54, api.OK},
		{3, a2, 54, api.OK},
		{4, a1, 54, api.ErrInUse},
		{4, api.Any, 54, api.ErrInUse},
		{4, api.Any, 65535, api.OK},
		{0, api.Any, 1, api.OK},
	} {
		if err := p.Bind(c.id, c.a, c.port); err != c.want {
			t.Errorf("%d: %v, want %v", i, err, c.want)
		}
	}
	for id := 5; len(p.bindings) < api.MaxPorts; id++ {
		if p.Bind(id, a3, 1000+id) != api.OK {
			t.Fatal(id)
		}
	}
	if p.Bind(1, a3, 53) != api.ErrExists || p.Bind(999, a3, 53) != api.ErrFull || p.Bind(999, a3, 0) != api.ErrArg {
		t.Error("the order of the errors")
	}
	if port, err := p.Pick(999, a3, 5); port != 0 || err != api.ErrFull {
		t.Error(port, err)
	}
	if !p.Free(3) || p.Bind(999, a3, 54) != api.OK {
		t.Error("no room behind a Free")
	}
}

func TestP11_3Pick(t *testing.T) {
	var p Ports
	for i, c := range []struct {
		id   int
		a    api.Addr
		draw int
		port int
		want api.Errno
	}{
		{-1, api.Any, 0, 0, api.ErrArg},
		{3, api.Any, 0, 49152, api.OK},
		{3, api.Any, 0, 0, api.ErrExists},
		{4, api.Any, 0, 49153, api.OK},
		{5, api.Any, 16383, 65535, api.OK},
		{6, a1, 16383, 49154, api.OK},
		{7, a2, 2, 49154, api.OK},
		{8, a2, 16384 + 1, 49155, api.OK},
		{9, api.Any, -5, 49156, api.OK},
		{10, api.Any, math.MaxInt, 49157, api.OK},
		{11, api.Any, 9000, 58152, api.OK},
		{0, api.Any, 9001, 58153, api.OK},
	} {
		port, err := p.Pick(c.id, c.a, c.draw)
		if port != c.port || err != c.want {
			t.Errorf("%d: %d, %v", i, port, err)
		}
	}
}

func TestP11_4ConnectAndFree(t *testing.T) {
	var p Ports
	p.Bind(1, api.Any, 53)
	for _, c := range []struct {
		id, port int
		want     api.Errno
	}{{2, -1, api.ErrNone}, {1, -1, api.ErrArg}, {1, 65536, api.ErrArg}, {1, 7, api.OK}} {
		if err := p.Connect(c.id, a2, c.port); err != c.want {
			t.Error(c, err)
		}
	}
	to := func(from api.Addr, port int) api.Datagram {
		return api.Datagram{From: from, FromPort: port, To: a1, ToPort: 53}
	}
	if id, ok := p.Find(to(a2, 7)); id != 1 || !ok {
		t.Error(id, ok)
	}
	for _, d := range []api.Datagram{to(a2, 8), to(a3, 7)} {
		if id, ok := p.Find(d); id != -1 || ok {
			t.Error(id, ok)
		}
	}
	if p.Connect(1, a3, 0) != api.OK {
		t.Error("Connect to nobody")
	}
	if id, ok := p.Find(to(a3, 9)); id != 1 || !ok {
		t.Error(id, ok)
	}
	if p.Free(2) || !p.Free(1) || p.Free(1) || p.Connect(1, a2, 7) != api.ErrNone {
		t.Error("Free")
	}
}

func TestP11_5Find(t *testing.T) {
	var p Ports
	p.Bind(9, a1, 53)
	p.Bind(8, a2, 53)
	d := api.Datagram{From: a3, FromPort: 4, To: a2, ToPort: 53}
	if id, ok := p.Find(d); id != 8 || !ok {
		t.Error(id, ok)
	}
	d.To = a3
	if id, ok := p.Find(d); id != -1 || ok {
		t.Error(id, ok)
	}
	d.To, d.ToPort = a2, 54
	if id, ok := p.Find(d); id != -1 || ok {
		t.Error(id, ok)
	}
}

func TestP11_5Precedence(t *testing.T) {
	d := api.Datagram{From: a3, FromPort: 4, To: a2, ToPort: 53}
	any, own := binding{addr: api.Any, port: 53}, binding{addr: a2, port: 53}
	peered := func(b binding) binding {
		b.peer, b.peerPort = a3, 4
		return b
	}
	with := func(id int, b binding) binding {
		b.id = id
		return b
	}
	for i, c := range []struct {
		bindings []binding
		want     int
	}{
		{[]binding{with(1, own), with(2, peered(any))}, 2},
		{[]binding{with(1, any), with(2, own)}, 2},
		{[]binding{with(2, own), with(1, any)}, 2},
		{[]binding{with(1, peered(any)), with(2, peered(own)), with(0, own)}, 2},
		{[]binding{with(3, any), with(2, any), with(5, any)}, 2},
	} {
		p := Ports{bindings: c.bindings}
		if id, ok := p.Find(d); id != c.want || !ok {
			t.Errorf("%d: %d", i, id)
		}
	}
}

func TestP11_6Properties(t *testing.T) {
	x := uint32(1)
	draw := func(n int) int {
		x = x*1664525 + 1013904223
		return int(x>>8) % n
	}
	var p Ports
	addrs := []api.Addr{api.Any, a1, a2}
	for range 5000 {
		id := draw(80)
		switch draw(4) {
		case 0:
			p.Bind(id, addrs[draw(3)], 1+draw(60))
		case 1:
			p.Pick(id, addrs[draw(3)], draw(30))
		case 2:
			p.Connect(id, addrs[draw(3)], draw(3))
		default:
			p.Free(id)
		}
		seen := map[[2]int]int{}
		for _, b := range p.bindings {
			if seen[[2]int{int(b.addr), b.port}]++; seen[[2]int{int(b.addr), b.port}] > 1 {
				t.Fatal("two are bound to one port")
			}
		}
		d := api.Datagram{From: addrs[draw(3)], FromPort: draw(3), To: addrs[draw(3)], ToPort: 1 + draw(60)}
		if id, ok := p.Find(d); ok && !p.bindings[p.place(id)].hears(d) || len(p.bindings) > api.MaxPorts {
			t.Fatal(id, ok)
		}
	}
	for n := range 300 {
		d := api.Datagram{From: api.Addr(n) << 20, FromPort: n * 100, To: a1, ToPort: 65535 - n, Data: bytes.Repeat([]byte{byte(n)}, n)}
		b, _ := Encode(d)
		if got, err := Decode(d.From, d.To, b); err != api.OK || !equal(d, got) {
			t.Error(n, err)
		}
	}
}

func TestP11_7Nil(t *testing.T) {
	var p *Ports
	if p.Bind(1, a1, 1) != api.ErrArg || p.Connect(1, a1, 1) != api.ErrArg || p.Free(1) {
		t.Error("a nil Ports")
	}
	if port, err := p.Pick(1, a1, 1); port != 0 || err != api.ErrArg {
		t.Error(port, err)
	}
	if id, ok := p.Find(api.Datagram{}); id != -1 || ok {
		t.Error(id, ok)
	}
	data := append(make([]byte, 0, 9), 1, 2)
	b, _ := Encode(api.Datagram{Data: data})
	b[8] = 9
	wire := []byte{0, 0, 0, 0, 0, 10, 0, 0, 1, 2, 3}
	got, _ := Decode(0, 0, wire)
	got.Data[0] = 8
	if data[0] != 1 || data[:3][2] != 0 || wire[8] != 1 {
		t.Error("memory is shared")
	}
}
