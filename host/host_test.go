package host

import (
	"bytes"
	"slices"
	"strconv"
	"strings"
	"testing"

	"wharf/api"
	"wharf/arp"
	"wharf/ether"
	"wharf/frag"
	"wharf/icmp"
	"wharf/igmp"
	"wharf/ipv4"
	"wharf/segment"
	"wharf/tally"
	"wharf/udp"
)

var (
	mac1 = api.MAC{2, 0, 0, 0, 0, 1}
	mac2 = api.MAC{2, 0, 0, 0, 0, 2}
	all  = api.MAC{0xff, 0xff, 0xff, 0xff, 0xff, 0xff}
)

const (
	addr1   = api.Addr(0x0a000001)
	addr2   = api.Addr(0x0a000002)
	gateway = api.Addr(0x0a0000fe)
	group1  = api.Addr(0xe0010203)
)

func fresh(t *testing.T) *Host {
	t.Helper()
	h, err := New(api.HostConfig{MAC: mac1, Addr: addr1, Bits: 24, Gateway: gateway})
	if err != api.OK {
		t.Fatal(err)
	}
	return h
}

// knowing is a fresh one that knows mac2 of addr2.
func knowing(t *testing.T) *Host {
	t.Helper()
	h := fresh(t)
	is(t, "asked", h.Frame(arpFrame(1, addr2, addr1), 0, 0), "arp 2 10.0.0.1 10.0.0.2 > 02")
	return h
}

func arpFrame(op int, from, to api.Addr) []byte {
	b, _ := arp.Encode(api.ARP{Op: op, FromMAC: mac2, From: from, To: to})
	f, _ := ether.Encode(api.Frame{To: mac1, From: mac2, Kind: api.KindARP, Data: b})
	return f
}

// ipFrames are a packet of addr2 in frames; missing fields are filled in.
func ipFrames(p api.Packet) [][]byte {
	if p.From == 0 {
		p.From = addr2
	}
	if p.To == 0 {
		p.To = addr1
	}
	p.Life = 9
	l, err := frag.Split(p, api.MTU)
	if err != api.OK {
		panic(err)
	}
	var out [][]byte
	for _, q := range l {
		b, _ := ipv4.Encode(q)
		f, _ := ether.Encode(api.Frame{To: mac1, From: mac2, Kind: api.KindIP, Data: b})
		out = append(out, f)
	}
	return out
}

func ipFrame(p api.Packet) []byte { return ipFrames(p)[0] }

func udpPacket(from api.Addr, fromPort int, to api.Addr, toPort int, data string) api.Packet {
	b, _ := udp.Encode(api.Datagram{From: from, FromPort: fromPort, To: to, ToPort: toPort, Data: []byte(data)})
	return api.Packet{ID: 77, Proto: api.ProtoUDP, From: from, To: to, Data: b}
}

func icmpPacket(m api.ICMP) api.Packet {
	b, _ := icmp.Encode(m)
	return api.Packet{Proto: api.ProtoICMP, Data: b}
}

// tell is a frame as text; it must be one of mac1.
func tell(b []byte) string {
	f, err := ether.Decode(b)
	if err != api.OK || f.From != mac1 {
		return "no frame of ours"
	}
	to := ether.Text(f.To)
	to = " > " + to[len(to)-2:]
	if f.Kind == api.KindARP {
		p, err := arp.Decode(f.Data)
		if err != api.OK || p.FromMAC != mac1 || p.Op == 1 && p.ToMAC != (api.MAC{}) || p.Op == 2 && p.ToMAC != f.To {
			return "a wrong ARP packet"
		}
		return "arp " + strconv.Itoa(p.Op) + " " + ipv4.Text(p.From) + " " + ipv4.Text(p.To) + to
	}
	p, err := ipv4.Decode(f.Data)
	if err != api.OK {
		return "a wrong packet"
	}
	out := " " + ipv4.Text(p.From) + " " + ipv4.Text(p.To) + to
	if p.More || p.Offset > 0 {
		return "fragment " + strconv.Itoa(p.Offset) + out
	}
	switch p.Proto {
	case api.ProtoICMP:
		m, err := icmp.Decode(p.Data)
		if err != api.OK || p.Life != 64 || p.Whole {
			return "a wrong ICMP message"
		}
		return "icmp " + strconv.Itoa(m.Type) + "/" + strconv.Itoa(m.Code) + out
	case api.ProtoIGMP:
		m, err := igmp.Decode(p.Data)
		if err != api.OK || p.Life != 1 {
			return "a wrong IGMP message"
		}
		return "igmp " + strconv.Itoa(m.Type) + " " + ipv4.Text(m.Group) + out
	case api.ProtoUDP:
		d, err := udp.Decode(p.From, p.To, p.Data)
		if err != api.OK || p.Life != 64 || p.Whole {
			return "a wrong datagram"
		}
		return "udp " + strconv.Itoa(d.FromPort) + " " + strconv.Itoa(d.ToPort) + " " + string(d.Data) + out
	case api.ProtoTCP:
		s, err := segment.Decode(p.From, p.To, p.Data)
		if err != api.OK || p.Life != 64 || !p.Whole {
			return "a wrong segment"
		}
		return "tcp " + strconv.Itoa(s.Flags) + out
	}
	return "proto " + strconv.Itoa(p.Proto) + out
}

func is(t *testing.T, what string, frames [][]byte, want ...string) {
	t.Helper()
	var got []string
	for _, b := range frames {
		got = append(got, tell(b))
	}
	if !slices.Equal(got, want) {
		t.Errorf("%s: %q, want %q", what, got, want)
	}
}

// counted holds counters against numbers: pairs of both.
func counted(t *testing.T, h *Host, pairs ...int) {
	t.Helper()
	for i := 0; i < len(pairs); i += 2 {
		if got := h.Count(pairs[i]); got != pairs[i+1] {
			t.Errorf("counter %d: %d, want %d", pairs[i], got, pairs[i+1])
		}
	}
}

// packetOf is the IPv4 packet in a frame.
func packetOf(t *testing.T, b []byte) api.Packet {
	t.Helper()
	f, _ := ether.Decode(b)
	p, err := ipv4.Decode(f.Data)
	if err != api.OK {
		t.Fatal(err)
	}
	return p
}

func TestCounters(t *testing.T) {
	var b tally.Board
	for n, name := range map[int]string{framesIn: "frames in", framesOut: "frames out", notOurs: "not ours", malformed: "malformed", arpAsked: "arp asked", arpLost: "arp lost", fragments: "fragments", putTogether: "put together", notRouted: "not routed", icmpTold: "icmp told", icmpHeld: "icmp held", udpIn: "udp in", udpNoPort: "udp no port", tcpIn: "tcp in", tcpReset: "tcp reset", droppedFull: "dropped full"} {
		if b.Name(n) != name {
			t.Error(n, name)
		}
	}
}

func TestP19_1New(t *testing.T) {
	for i, c := range []api.HostConfig{
		{MAC: api.MAC{1}}, {MAC: all},
		{Addr: api.Group, Bits: 24}, {Addr: addr1, Bits: 24, Gateway: api.Group}, {Addr: api.Broadcast, Bits: 24},
		{Addr: addr1}, {Addr: addr1, Bits: 33}, {Addr: addr1, Bits: -1}, {Bits: 1}, {Gateway: gateway}, {Bits: -1},
	} {
		if h, err := New(c); err != api.ErrArg || h != nil {
			t.Error(i, err)
		}
	}
	for i, c := range []api.HostConfig{{}, {MAC: api.MAC{0xfe, 1}}, {Addr: addr1, Bits: 1}, {Addr: addr1, Bits: 32}, {Addr: api.Group - 1, Bits: 24, Gateway: api.Group - 2}} {
		h, err := New(c)
		if err != api.OK || h.Addr() != c.Addr || h.Hub() == nil {
			t.Error(i, err)
		}
	}
}

func TestP19_1SetAddr(t *testing.T) {
	h := fresh(t)
	if h.Bind(1, api.Any, 53) != api.OK || h.Bind(2, addr1, 54) != api.OK {
		t.Error("Bind")
	}
	if err := h.SetAddr(addr1, 0, 0); err != api.ErrArg || h.Addr() != addr1 {
		t.Error(err)
	}
	if err := h.SetAddr(0xc0a80105, 16, 0); err != api.OK || h.Addr() != 0xc0a80105 {
		t.Error(err)
	}
	if _, err := h.Send(api.Datagram{To: addr2, ToPort: 1}, 0); err != api.ErrNoRoute {
		t.Error("the old routes are there:", err)
	}
	l, err := h.Send(api.Datagram{To: 0xc0a8ff01, ToPort: 1}, 0)
	is(t, "the new network", l, "arp 1 192.168.1.5 192.168.255.1 > ff")
	if err != api.OK || h.Bind(1, api.Any, 55) != api.ErrExists {
		t.Error("the ports are gone", err)
	}
	if err := h.SetAddr(0, 0, 0); err != api.OK || h.Addr() != 0 {
		t.Error(err)
	}
	if _, err := h.Send(api.Datagram{To: 0xc0a8ff01, ToPort: 1}, 0); err != api.ErrNoRoute {
		t.Error(err)
	}
	if h.SetAddr(0, 1, 0) != api.ErrArg || h.SetAddr(0, 0, 1) != api.ErrArg || h.SetAddr(api.Group, 8, 0) != api.ErrArg {
		t.Error("wrong addresses")
	}
}

func TestP19_2Frame(t *testing.T) {
	h := fresh(t)
	good := ipFrame(udpPacket(addr2, 1, addr1, 2, "x"))
	h.Bind(1, api.Any, 2)
	h.Frame(good[:13], 0, 0)
	h.Frame(nil, 0, 0)
	h.Frame(make([]byte, 2000), 0, 0)
	h.Frame(make([]byte, 60), 0, 0)
	counted(t, h, framesIn, 4, malformed, 4, notOurs, 0)
	with := func(to, from api.MAC, kind int) []byte {
		f, _ := ether.Decode(good)
		f.To, f.From, f.Kind = to, from, kind
		b, _ := ether.Encode(f)
		return b
	}
	h.Frame(with(mac1, mac1, api.KindIP), 0, 0)
	h.Frame(with(mac2, mac2, api.KindIP), 0, 0)
	h.Frame(with(ether.OfGroup(group1), mac2, api.KindIP), 0, 0)
	h.Frame(with(mac1, mac2, 0x86dd), 0, 0)
	counted(t, h, framesIn, 8, malformed, 4, notOurs, 4, udpIn, 0)
	h.Frame(with(mac1, mac2, api.KindIP), 0, 0)
	h.Frame(with(all, mac2, api.KindIP), 0, 0)
	h.Frame(with(ether.OfGroup(allHosts), mac2, api.KindIP), 0, 0)
	h.Join(group1, 0, 0)
	h.Frame(with(ether.OfGroup(group1), mac2, api.KindIP), 0, 0)
	counted(t, h, framesIn, 12, malformed, 4, notOurs, 4, udpIn, 4)
}

func TestP19_3ARP(t *testing.T) {
	h := fresh(t)
	is(t, "a request", h.Frame(arpFrame(1, addr2, addr1), 0, 0), "arp 2 10.0.0.1 10.0.0.2 > 02")
	l, err := h.Send(api.Datagram{To: addr2, FromPort: 5, ToPort: 6, Data: []byte("hi")}, 1)
	is(t, "learnt", l, "udp 5 6 hi 10.0.0.1 10.0.0.2 > 02")
	if err != api.OK {
		t.Error(err)
	}
	counted(t, h, framesOut, 2)

	h = fresh(t)
	is(t, "another's request", h.Frame(arpFrame(1, addr2, 0x0a000003), 0, 0))
	is(t, "an answer", h.Frame(arpFrame(2, addr2, addr1), 0, 0))
	is(t, "of address 0", h.Frame(arpFrame(1, 0, addr1), 0, 0), "arp 2 10.0.0.1 0.0.0.0 > 02")
	is(t, "of our address", h.Frame(arpFrame(1, addr1, addr1), 0, 0), "arp 2 10.0.0.1 10.0.0.1 > 02")
	if n := h.m.near.Len(); n != 0 {
		t.Error("learnt:", n)
	}
	for i := range 5 {
		l, _ := h.Send(api.Datagram{To: addr2, FromPort: 5, ToPort: 6, Data: []byte{byte('0' + i)}}, 1)
		if want := 1; (len(l) == want) != (i == 0) {
			t.Error(i, len(l))
		}
	}
	counted(t, h, arpAsked, 1)
	is(t, "what waited", h.Frame(arpFrame(1, addr2, addr1), 2, 0), "udp 5 6 2 10.0.0.1 10.0.0.2 > 02", "udp 5 6 3 10.0.0.1 10.0.0.2 > 02", "udp 5 6 4 10.0.0.1 10.0.0.2 > 02", "arp 2 10.0.0.1 10.0.0.2 > 02")
	bad := arpFrame(1, addr2, addr1)
	bad[14] = 9
	is(t, "malformed", h.Frame(bad, 0, 0))
	counted(t, h, malformed, 1)

	none, _ := New(api.HostConfig{MAC: mac1})
	is(t, "no address", none.Frame(arpFrame(1, addr2, 0), 0, 0))
	if none.m.near.Len() != 0 {
		t.Error("a host without an address learns of strangers")
	}
}

func TestP19_4WhatIsTaken(t *testing.T) {
	h := knowing(t)
	h.Join(group1, 0, 0)
	h.Bind(1, api.Any, 9)
	for _, c := range []struct {
		from, to api.Addr
		taken    bool
	}{
		{addr2, addr1, true}, {addr2, 0x0a0000ff, true}, {addr2, api.Broadcast, true}, {addr2, group1, true}, {addr2, allHosts, true},
		{addr2, addr2, false}, {addr2, group1 + 1, false}, {addr2, 0x0a00ffff, false}, {addr2, allRouters, false},
		{addr1, addr1, false}, {api.Group, addr1, false}, {api.Broadcast, addr1, false}, {api.Group - 1, addr1, true}, {0x7f000001, addr1, true},
	} {
		before, other := h.Count(udpIn), h.Count(notOurs)
		p := udpPacket(c.from, 1, c.to, 9, "x")
		h.Frame(ipFrame(p), 0, 0)
		if (h.Count(udpIn) > before) != c.taken || (h.Count(notOurs) > other) == c.taken {
			t.Error(c)
		}
	}
	bad := ipFrame(udpPacket(addr2, 1, addr1, 9, "x"))
	bad[20]++
	h.Frame(bad, 0, 0)
	counted(t, h, malformed, 1)

	none, _ := New(api.HostConfig{MAC: mac1})
	for to, n := range map[api.Addr]int{addr1: 1, 0xdfffffff: 1, api.Broadcast: 1, allHosts: 1, group1: 0, api.Group: 0} {
		before := none.Count(udpIn)
		none.Frame(ipFrame(udpPacket(addr2, 1, to, 9, "x")), 0, 0)
		if none.Count(udpIn) != before+n {
			t.Error(to)
		}
	}
	for bits, n := range map[int]int{29: 0, 30: 1, 31: 0, 32: 0} {
		small, _ := New(api.HostConfig{MAC: mac1, Addr: 0x0a000012, Bits: bits})
		small.Frame(ipFrame(udpPacket(addr2, 1, 0x0a000013, 9, "x")), 0, 0)
		counted(t, small, udpIn, n, notOurs, 1-n)
	}
}

func TestP19_4Echo(t *testing.T) {
	h := knowing(t)
	l := h.Frame(ipFrame(icmpPacket(api.ICMP{Type: api.Echo, Code: 3, Rest: 0x01020304, Data: []byte("data")})), 1, 0)
	is(t, "Echo", l, "icmp 0/3 10.0.0.1 10.0.0.2 > 02")
	p := packetOf(t, l[0])
	if m, _ := icmp.Decode(p.Data); m.Rest != 0x01020304 || string(m.Data) != "data" || p.ID != 1 {
		t.Error(m, p.ID)
	}
	is(t, "an EchoReply", h.Frame(ipFrame(icmpPacket(api.ICMP{Type: api.EchoReply})), 1, 0))
	q := icmpPacket(api.ICMP{Type: api.Echo})
	q.To = api.Broadcast
	is(t, "to all", h.Frame(ipFrame(q), 1, 0))
	q.To = 0
	q.Data[0]++
	is(t, "a wrong sum", h.Frame(ipFrame(q), 1, 0))
	counted(t, h, malformed, 1, icmpTold, 0)
}

func TestP19_4Unreachable(t *testing.T) {
	h := knowing(t)
	h.Bind(1, api.Any, 9)
	h.Bind(2, addr1, 10)
	h.Connect(1, addr2, 53)
	h.Connect(2, addr2, 53)
	unreachable := func(code int, p api.Packet) {
		h.Frame(ipFrame(icmpPacket(api.ICMP{Type: api.Unreachable, Code: code, Data: icmp.Quote(p)})), 1, 0)
	}
	waits := func(want ...bool) {
		t.Helper()
		for i, w := range want {
			if n, wrong := h.Waits(i + 1); n != 0 || wrong != w {
				t.Error(i+1, n, wrong)
			}
		}
	}
	unreachable(api.NoPort, udpPacket(addr1, 9, addr2, 54, ""))
	unreachable(api.NoPort, udpPacket(addr1, 8, addr2, 53, ""))
	unreachable(api.NoPort, udpPacket(addr1, 9, gateway, 53, ""))
	unreachable(api.NoPort, udpPacket(gateway, 10, addr2, 53, ""))
	tcp := udpPacket(addr1, 9, addr2, 53, "")
	tcp.Proto = api.ProtoTCP
	unreachable(api.NoPort, tcp)
	h.Frame(ipFrame(icmpPacket(api.ICMP{Type: api.Unreachable, Data: []byte{1}})), 1, 0)
	h.Frame(ipFrame(icmpPacket(api.ICMP{Type: api.TimeOver, Data: icmp.Quote(udpPacket(addr1, 9, addr2, 53, ""))})), 1, 0)
	waits(false, false)
	unreachable(api.NoPort, udpPacket(addr1, 9, addr2, 53, ""))
	waits(true, false)
	unreachable(api.NoHost, udpPacket(addr1, 10, addr2, 53, ""))
	waits(true, true)
	if _, err := h.Recv(1); err != api.ErrRefused {
		t.Error(err)
	}
	if _, err := h.Recv(1); err != api.ErrAgain {
		t.Error(err)
	}
	if _, err := h.Recv(2); err != api.ErrUnreach {
		t.Error(err)
	}
	h.Connect(1, addr2, 0)
	unreachable(api.NoPort, udpPacket(addr1, 9, addr2, 53, ""))
	waits(false, false)
	unreachable(api.NoHost, udpPacket(addr1, 10, addr2, 53, ""))
	unreachable(api.NoPort, udpPacket(addr1, 10, addr2, 53, ""))
	if _, err := h.Recv(2); err != api.ErrRefused {
		t.Error(err)
	}
}

func TestP19_4Datagrams(t *testing.T) {
	h := knowing(t)
	h.Bind(1, addr1, 9)
	for i := range api.MaxQueue + 2 {
		is(t, "a datagram", h.Frame(ipFrame(udpPacket(addr2, 5, addr1, 9, strconv.Itoa(i))), 1, 0))
	}
	counted(t, h, udpIn, api.MaxQueue+2, droppedFull, 2, udpNoPort, 0, fragments, 0, putTogether, 0)
	if n, wrong := h.Waits(1); n != api.MaxQueue || wrong {
		t.Error(n, wrong)
	}
	for i := range api.MaxQueue {
		d, err := h.Recv(1)
		if err != api.OK || string(d.Data) != strconv.Itoa(i) || d.From != addr2 || d.FromPort != 5 || d.To != addr1 || d.ToPort != 9 {
			t.Error(i, d, err)
		}
	}
	if d, err := h.Recv(1); err != api.ErrAgain || d.From != 0 || d.Data != nil {
		t.Error(d, err)
	}
	bad := udpPacket(addr2, 5, addr1, 9, "x")
	bad.Data[8]++
	h.Frame(ipFrame(bad), 1, 0)
	counted(t, h, malformed, 1, udpIn, api.MaxQueue+2)
	p := udpPacket(addr2, 5, addr1, 10, "0123456789")
	l := h.Frame(ipFrame(p), 1, 0)
	is(t, "no port", l, "icmp 3/3 10.0.0.1 10.0.0.2 > 02")
	m, _ := icmp.Decode(packetOf(t, l[0]).Data)
	p.Life = 9
	if m.Rest != 0 || !bytes.Equal(m.Data, icmp.Quote(p)) {
		t.Errorf("% x", m.Data)
	}
	is(t, "no port, to all", h.Frame(ipFrame(udpPacket(addr2, 5, api.Broadcast, 10, "x")), 1, 0))
	is(t, "no port, of nobody", h.Frame(ipFrame(udpPacket(0x7f000001, 5, addr1, 10, "x")), 1, 0))
	counted(t, h, udpNoPort, 3, icmpTold, 1, icmpHeld, 0)
}

func TestP19_4Fragments(t *testing.T) {
	h := knowing(t)
	h.Bind(1, addr1, 9)
	text := strings.Repeat("0123456789", 400)
	l := ipFrames(udpPacket(addr2, 5, addr1, 9, text))
	if len(l) != 3 {
		t.Fatal(len(l))
	}
	for _, i := range []int{2, 0, 0, 1} {
		h.Frame(l[i], 1, 0)
	}
	counted(t, h, fragments, 4, putTogether, 1, udpIn, 1)
	if d, err := h.Recv(1); err != api.OK || string(d.Data) != text {
		t.Error(err)
	}
	h.Frame(ipFrame(api.Packet{More: true, Proto: 17, Data: make([]byte, 7)}), 1, 0)
	counted(t, h, fragments, 5, malformed, 1)
	big := ipFrames(icmpPacket(api.ICMP{Type: api.Echo, Data: []byte(text)}))
	var out [][]byte
	for _, f := range big {
		out = append(out, h.Frame(f, 1, 0)...)
	}
	is(t, "a great Echo", out, "fragment 0 10.0.0.1 10.0.0.2 > 02", "fragment 1480 10.0.0.1 10.0.0.2 > 02", "fragment 2960 10.0.0.1 10.0.0.2 > 02")
}

func TestP19_4TCP(t *testing.T) {
	h := knowing(t)
	syn := api.Segment{From: addr2, FromPort: 1000, To: addr1, ToPort: 80, Seq: 9, Flags: api.Syn, Window: 1000, MSS: 1460, Scale: 1}
	take := func(s api.Segment, draw int) [][]byte {
		b, _ := segment.Encode(s)
		return h.Frame(ipFrame(api.Packet{Proto: api.ProtoTCP, From: s.From, To: s.To, Data: b}), 1, draw)
	}
	is(t, "nobody", take(syn, 0), "tcp 20 10.0.0.1 10.0.0.2 > 02")
	counted(t, h, tcpIn, 1, tcpReset, 1)
	h.Hub().Listen(api.Any, 80, 5)
	l := take(syn, 1<<33+0x12345678)
	is(t, "SYN", l, "tcp 18 10.0.0.1 10.0.0.2 > 02")
	s, _ := segment.Decode(addr1, addr2, packetOf(t, l[0]).Data)
	if s.Seq != 0x12345678 || s.MSS != 1460 || s.Scale != 2 || s.Window != 8192 {
		t.Error(s)
	}
	counted(t, h, tcpIn, 2, tcpReset, 1)
	syn.To = api.Broadcast
	is(t, "to all", take(syn, 0))
	counted(t, h, tcpIn, 2, notOurs, 1)
	b, _ := segment.Encode(syn)
	h.Frame(ipFrame(api.Packet{Proto: api.ProtoTCP, Data: b[:19]}), 1, 0)
	counted(t, h, tcpIn, 2, malformed, 1)
}

func TestP19_4OtherProtocols(t *testing.T) {
	h := knowing(t)
	is(t, "no protocol", h.Frame(ipFrame(api.Packet{Proto: 99, Data: []byte("x")}), 1, 0), "icmp 3/2 10.0.0.1 10.0.0.2 > 02")
	p := api.Packet{Proto: api.ProtoIGMP, Data: []byte{0x11}}
	is(t, "no message", h.Frame(ipFrame(p), 1, 0))
	counted(t, h, malformed, 1, icmpTold, 1)
	h.Join(group1, 0, 0)
	h.Tick(50, 0)
	p.Data, _ = igmp.Encode(api.IGMP{Type: api.Query, Max: 20})
	is(t, "Query", h.Frame(ipFrame(p), 100, 7))
	is(t, "early", h.Tick(107, 0))
	is(t, "Report", h.Tick(108, 0), "igmp 22 224.1.2.3 10.0.0.1 224.1.2.3 > 03")
}

func TestP19_5Tick(t *testing.T) {
	h := knowing(t)
	h.Frame(ipFrame(api.Packet{ID: 5, More: true, Proto: 17, Data: []byte("01234567")}), 0, 0)
	h.Join(group1, 291, 9)
	h.Hub().Open(api.Config{Local: addr1, LocalPort: 1000, Peer: addr2, PeerPort: 80, MSS: 1460, SendRoom: 9, RecvRoom: 9}, 271)
	h.Send(api.Datagram{To: 0x0a000009, ToPort: 1}, 291)
	h.Send(api.Datagram{To: 0x0a000008, ToPort: 1}, 291)
	is(t, "early", h.Tick(300, 0), "icmp 11/1 10.0.0.1 10.0.0.2 > 02")
	is(t, "all", h.Tick(301, 0), "arp 1 10.0.0.1 10.0.0.8 > ff", "arp 1 10.0.0.1 10.0.0.9 > ff", "igmp 22 224.1.2.3 10.0.0.1 224.1.2.3 > 03", "tcp 2 10.0.0.1 10.0.0.2 > 02")
	h.Tick(311, 0)
	counted(t, h, arpAsked, 6, arpLost, 0)
	h.Tick(321, 0)
	counted(t, h, arpAsked, 6, arpLost, 2)
	h.Frame(ipFrame(api.Packet{ID: 5, More: true, Proto: 17, To: api.Broadcast, Data: []byte("01234567")}), 330, 0)
	h.Frame(ipFrame(api.Packet{ID: 6, Proto: 17, Offset: 8, Data: []byte("01234567")}), 330, 0)
	h.Tick(630, 0)
	counted(t, h, icmpTold, 1)
}

func TestP19_6Packet(t *testing.T) {
	h := knowing(t)
	p := api.Packet{Service: 3, ID: 99, Whole: true, More: true, Offset: 8, Life: 7, Proto: 200, To: addr2, Options: []byte{1, 1, 1, 1}, Data: []byte("data")}
	l, err := h.Packet(p, 1)
	is(t, "Packet", l, "proto 200 10.0.0.1 10.0.0.2 > 02")
	q := packetOf(t, l[0])
	if err != api.OK || q.Service != 3 || q.ID != 1 || !q.Whole || q.More || q.Offset != 0 || q.Life != 7 || !bytes.Equal(q.Options, p.Options) || string(q.Data) != "data" {
		t.Error(q, err)
	}
	p.From = addr2
	if l, err := h.Packet(p, 1); len(l) != 0 || err != api.ErrArg {
		t.Error(err)
	}
	p.From = addr1
	for i, c := range []struct {
		change func(p *api.Packet)
		want   api.Errno
	}{
		{func(p *api.Packet) { p.Service = 256 }, api.ErrArg},
		{func(p *api.Packet) { p.Options = []byte{9} }, api.ErrForm},
		{func(p *api.Packet) { p.Data = make([]byte, 65535) }, api.ErrLong},
		{func(p *api.Packet) { p.Data = make([]byte, 1477) }, api.ErrLong},
		{func(p *api.Packet) { p.To, p.Data = group1, make([]byte, 1477) }, api.ErrLong},
		{func(p *api.Packet) {}, api.OK},
	} {
		x := p
		c.change(&x)
		l, err := h.Packet(x, 1)
		if err != c.want || err != api.OK && len(l) != 0 {
			t.Error(i, err)
		}
		if err == api.OK {
			if id := packetOf(t, l[0]).ID; id != 7 {
				t.Error("the IDs of what was not sent:", id)
			}
		}
	}
	p.To, p.Whole, p.Data = group1, false, make([]byte, 3000)
	l, err = h.Packet(p, 1)
	is(t, "a group", l, "fragment 0 10.0.0.1 224.1.2.3 > 03", "fragment 1472 10.0.0.1 224.1.2.3 > 03", "fragment 2952 10.0.0.1 224.1.2.3 > 03")
	if err != api.OK {
		t.Error(err)
	}
	p.Data = nil
	for to, want := range map[api.Addr]string{api.Broadcast: "255.255.255.255", 0x0a0000ff: "10.0.0.255"} {
		p.To = to
		l, _ = h.Packet(p, 1)
		is(t, "all", l, "proto 200 10.0.0.1 "+want+" > ff")
	}
	p.To = 0x08080808
	l, _ = h.Packet(p, 1)
	is(t, "by the gateway", l, "arp 1 10.0.0.1 10.0.0.254 > ff")
	for _, to := range []api.Addr{0xf0000000, 0xf0000001, 0xfffffffe} {
		p.To = to
		l, err = h.Packet(p, 1)
		is(t, "no group: it waits for the gateway", l)
		if err != api.OK {
			t.Error(err)
		}
	}
	for to, want := range map[api.Addr]string{api.Group: "224.0.0.0 > 00", 0xefffffff: "239.255.255.255 > ff"} {
		p.To = to
		l, _ = h.Packet(p, 1)
		is(t, "a group", l, "proto 200 10.0.0.1 "+want)
	}
}

func TestP19_6NoRoute(t *testing.T) {
	h, _ := New(api.HostConfig{MAC: mac1, Addr: addr1, Bits: 24})
	if l, err := h.Packet(api.Packet{To: 0x0b000001, Whole: true, Data: make([]byte, 3000)}, 0); len(l) != 0 || err != api.ErrNoRoute {
		t.Error(err)
	}
	counted(t, h, notRouted, 1, framesOut, 0)
	none, _ := New(api.HostConfig{MAC: mac1})
	l, err := none.Send(api.Datagram{To: api.Broadcast, FromPort: 68, ToPort: 67}, 0)
	is(t, "without an address", l, "udp 68 67  0.0.0.0 255.255.255.255 > ff")
	if err != api.OK {
		t.Error(err)
	}
	if l, err := none.Packet(api.Packet{}, 0); len(l) != 0 || err != api.ErrNoRoute {
		t.Error("to address 0 of a host that has none:", err)
	}
}

func TestP19_6FullOfNeighbours(t *testing.T) {
	h := fresh(t)
	for i := range 16 {
		h.Send(api.Datagram{To: addr1 + 1 + api.Addr(i), ToPort: 1}, 0)
	}
	l, err := h.Send(api.Datagram{To: addr1 + 50, ToPort: 1}, 0)
	if len(l) != 0 || err != api.OK {
		t.Error(err)
	}
	counted(t, h, droppedFull, 1, arpAsked, 16, framesOut, 16)
}

func TestP19_6IDsGoRound(t *testing.T) {
	h := knowing(t)
	h.m.nextID = 65534
	for _, want := range []int{65534, 65535, 1, 2} {
		l, _ := h.Packet(api.Packet{To: addr2}, 1)
		if id := packetOf(t, l[0]).ID; id != want {
			t.Error(id, want)
		}
	}
}

func TestP19_6Segments(t *testing.T) {
	h := knowing(t)
	ok := api.Segment{From: addr1, FromPort: 1, To: addr2, ToPort: 2, Scale: -1}
	bad, lost, rst := ok, ok, ok
	bad.Flags = 64 | api.Rst
	lost.To, lost.Flags = 0xf0000001, api.Rst
	h.m.routes.Remove(api.Route{})
	rst.Flags = api.Rst
	is(t, "Segments", h.Segments([]api.Segment{ok, bad, lost, rst}, 1), "tcp 0 10.0.0.1 10.0.0.2 > 02", "tcp 4 10.0.0.1 10.0.0.2 > 02")
	counted(t, h, tcpReset, 2, notRouted, 1)
}

func TestP19_6ToOneself(t *testing.T) {
	h := fresh(t)
	h.Bind(1, api.Any, 9)
	l, err := h.Send(api.Datagram{To: addr1, FromPort: 7, ToPort: 9, Data: []byte("me")}, 1)
	is(t, "to oneself", l)
	if d, e := h.Recv(1); err != api.OK || e != api.OK || string(d.Data) != "me" || d.From != addr1 {
		t.Error(d, err, e)
	}
	h.Connect(1, addr1, 10)
	h.Send(api.Datagram{To: addr1, FromPort: 9, ToPort: 10}, 1)
	if _, wrong := h.Waits(1); !wrong {
		t.Error("no error of a port of one's own")
	}
	counted(t, h, icmpTold, 1, udpNoPort, 1, framesIn, 0, framesOut, 0)
	h.Hub().Listen(api.Any, 80, 5)
	id, segs, _ := h.Hub().Open(api.Config{Local: addr1, LocalPort: 1000, Peer: addr1, PeerPort: 80, MSS: 1460, SendRoom: 9, RecvRoom: 9}, 1)
	is(t, "SYN to oneself", h.Segments(segs, 1))
	if s, _ := h.Hub().State(id); s != api.Established {
		t.Error(s)
	}
	counted(t, h, tcpIn, 3)
}

func TestP19_6SoManyToOneself(t *testing.T) {
	h := fresh(t)
	var l []api.Segment
	for range 70 {
		l = append(l, api.Segment{From: addr2, FromPort: 1, To: addr1, ToPort: 2, Scale: -1, Flags: api.Rst})
	}
	h.Segments(l, 1)
	counted(t, h, tcpIn, api.MaxOwn, droppedFull, 6)
	h.Segments(l[:5], 1)
	counted(t, h, tcpIn, api.MaxOwn+5, droppedFull, 6)
}

func TestP19_7Ports(t *testing.T) {
	h := fresh(t)
	if h.Bind(-1, addr2, 0) != api.ErrArg || h.Bind(1, addr2, 9) != api.ErrArg || h.Bind(1, addr1, 9) != api.OK || h.Bind(1, addr2, 9) != api.ErrArg || h.Bind(1, addr1, 9) != api.ErrExists || h.Bind(2, api.Any, 9) != api.ErrInUse {
		t.Error("Bind")
	}
	if p, err := h.Pick(2, addr2, 5); p != 0 || err != api.ErrArg {
		t.Error(p, err)
	}
	if p, err := h.Pick(2, api.Any, 5); p != api.FirstFree+5 || err != api.OK {
		t.Error(p, err)
	}
	if h.Connect(3, addr2, 5) != api.ErrNone || h.Connect(1, addr2, -1) != api.ErrArg || h.Connect(1, addr2, 5) != api.OK {
		t.Error("Connect")
	}
	h.Frame(ipFrame(udpPacket(addr2, 5, addr1, 9, "x")), 1, 0)
	h.Frame(ipFrame(udpPacket(addr2, 6, addr1, 9, "x")), 1, 0)
	h.Frame(ipFrame(icmpPacket(api.ICMP{Type: api.Unreachable, Code: api.NoPort, Data: icmp.Quote(udpPacket(addr1, 9, addr2, 5, ""))})), 1, 0)
	if n, wrong := h.Waits(1); n != 1 || !wrong {
		t.Error(n, wrong)
	}
	if h.Free(3) || !h.Free(1) || h.Free(1) {
		t.Error("Free")
	}
	if n, wrong := h.Waits(1); n != 0 || wrong {
		t.Error(n, wrong)
	}
	if _, err := h.Recv(1); err != api.ErrAgain {
		t.Error(err)
	}
	h.Bind(1, addr1, 9)
	h.Frame(ipFrame(icmpPacket(api.ICMP{Type: api.Unreachable, Data: icmp.Quote(udpPacket(addr1, 9, addr2, 5, ""))})), 1, 0)
	if _, wrong := h.Waits(1); wrong {
		t.Error("the peer of the binding before is there yet")
	}
}

func TestP19_7Send(t *testing.T) {
	h := knowing(t)
	for i, c := range []struct {
		d    api.Datagram
		want api.Errno
	}{
		{api.Datagram{To: addr2, FromPort: -1, Data: make([]byte, 65508)}, api.ErrMsgSize},
		{api.Datagram{To: addr2, FromPort: -1}, api.ErrArg},
		{api.Datagram{To: addr2, ToPort: 65536}, api.ErrArg},
		{api.Datagram{To: addr2, Data: make([]byte, 65507)}, api.OK},
		{api.Datagram{To: addr2, From: 99, FromPort: 3, ToPort: 4, Data: []byte("x")}, api.OK},
	} {
		l, err := h.Send(c.d, 1)
		if err != c.want || err != api.OK && len(l) != 0 {
			t.Error(i, err)
		}
		if i == 3 && len(l) != 45 {
			t.Error(len(l))
		}
		if i == 4 {
			is(t, "Send", l, "udp 3 4 x 10.0.0.1 10.0.0.2 > 02")
		}
	}
}

func TestP19_8Recv(t *testing.T) {
	h := knowing(t)
	h.Bind(1, addr1, 9)
	h.Connect(1, addr2, 5)
	h.Frame(ipFrame(udpPacket(addr2, 5, addr1, 9, "first")), 1, 0)
	h.Frame(ipFrame(icmpPacket(api.ICMP{Type: api.Unreachable, Code: api.NoPort, Data: icmp.Quote(udpPacket(addr1, 9, addr2, 5, ""))})), 1, 0)
	if d, err := h.Recv(1); err != api.ErrRefused || d.Data != nil {
		t.Error(d, err)
	}
	if d, err := h.Recv(1); err != api.OK || string(d.Data) != "first" {
		t.Error(d, err)
	}
	for _, id := range []int{1, 2, -1} {
		if _, err := h.Recv(id); err != api.ErrAgain {
			t.Error(id, err)
		}
		if n, wrong := h.Waits(id); n != 0 || wrong {
			t.Error(id, n, wrong)
		}
	}
}

func TestP19_9Groups(t *testing.T) {
	h := fresh(t)
	l, err := h.Join(group1, 5, 3)
	is(t, "Join", l, "igmp 22 224.1.2.3 10.0.0.1 224.1.2.3 > 03")
	if err != api.OK {
		t.Error(err)
	}
	if l, err := h.Join(group1, 5, 3); len(l) != 0 || err != api.ErrExists {
		t.Error(err)
	}
	if l, err := h.Join(allHosts, 5, 3); len(l) != 0 || err != api.ErrArg {
		t.Error(err)
	}
	is(t, "early", h.Tick(8, 0))
	is(t, "Report", h.Tick(9, 0), "igmp 22 224.1.2.3 10.0.0.1 224.1.2.3 > 03")
	l, err = h.Leave(group1, 10)
	is(t, "Leave", l, "igmp 23 224.1.2.3 10.0.0.1 224.0.0.2 > 02")
	if err != api.OK {
		t.Error(err)
	}
	if l, err := h.Leave(group1, 10); len(l) != 0 || err != api.ErrNone {
		t.Error(err)
	}
}

func TestP19_10Errors(t *testing.T) {
	h := knowing(t)
	told := 0
	for range 12 {
		told += len(h.Frame(ipFrame(udpPacket(addr2, 5, addr1, 10, "x")), 19, 0))
	}
	if told != 10 {
		t.Error(told)
	}
	counted(t, h, icmpTold, 10, icmpHeld, 2, udpNoPort, 12)
	for now := 20; now < 500; now++ {
		told += len(h.Frame(ipFrame(api.Packet{Proto: 99}), now, 0))
	}
	if told != 10+24 {
		t.Error(told)
	}
}

// anything throws bytes and calls at a host.
func anything(seed uint32, h *Host, each func(b []byte, sent [][]byte)) {
	x := seed
	draw := func(n int) int {
		x = x*1664525 + 1013904223
		return int(x>>8) % n
	}
	addrs := []api.Addr{addr1, addr2, gateway, group1, allHosts, api.Broadcast, 0, 0x7f000001}
	for now := range 3000 {
		data := make([]byte, draw(60))
		for i := range data {
			data[i] = byte(draw(256))
		}
		from, to := addrs[draw(8)], addrs[draw(8)]
		p := api.Packet{ID: draw(12), More: draw(4) == 0, Offset: draw(3) / 2 * 8 * draw(4), Proto: []int{1, 2, 6, 17, 99}[draw(5)], From: from, To: to, Life: 5, Data: data[:len(data)/8*8]}
		switch draw(6) {
		case 0:
			p.Data = udpPacket(from, draw(5), to, draw(5), string(data)).Data
		case 1:
			p.Data, _ = icmp.Encode(api.ICMP{Type: []int{0, 3, 8, 11}[draw(4)], Code: draw(4), Data: data})
		case 2:
			p.Data, _ = igmp.Encode(api.IGMP{Type: []int{0x11, 0x16, 0x17}[draw(3)], Max: draw(30), Group: addrs[draw(8)]})
		case 3:
			p.Data, _ = segment.Encode(api.Segment{From: from, FromPort: 1 + draw(3), To: to, ToPort: 80, Flags: draw(64), Seq: uint32(draw(20)), Ack: uint32(draw(20)), Scale: -1})
		}
		b, _ := ipv4.Encode(p)
		f, _ := ether.Encode(api.Frame{To: []api.MAC{mac1, all, ether.OfGroup(to)}[draw(3)], From: mac2, Kind: api.KindIP, Data: b})
		if draw(5) == 0 {
			f = arpFrame(1+draw(2), addr2+api.Addr(draw(40)), addrs[draw(8)])
		}
		if draw(5) == 0 {
			f[draw(len(f))] ^= byte(draw(256))
		}
		each(f, h.Frame(f, now, draw(1<<30)))
		switch draw(8) {
		case 0:
			h.Tick(now, draw(1<<30))
		case 1:
			h.Bind(draw(4), api.Any, 1+draw(4))
		case 2:
			h.Send(api.Datagram{To: addr2 + api.Addr(draw(40)), FromPort: draw(5), ToPort: draw(5), Data: data}, now)
		case 3:
			h.Free(draw(4))
		case 4:
			h.Join(group1+api.Addr(draw(20)), now, draw(50))
		case 5:
			h.Hub().Listen(api.Any, 80, 3)
		}
	}
}

func TestP19_10And11Bounds(t *testing.T) {
	for seed := range uint32(10) {
		h := fresh(t)
		anything(seed, h, func(b []byte, sent [][]byte) {
			n := 0
			for _, f := range sent {
				if !strings.HasPrefix(tell(f), "tcp") {
					n++
				}
			}
			if n > 48 {
				t.Fatal(n, "frames for one")
			}
			if h.m.near.Len() > api.MaxNear || h.m.store.Len() > api.MaxWhole {
				t.Fatal("too much is kept")
			}
			for id, box := range h.m.boxes {
				if len(box.queue) > api.MaxQueue {
					t.Fatal(id, len(box.queue))
				}
			}
		})
		if h.Count(icmpTold) > 10+3000/20+1 || h.Count(icmpTold) == 0 {
			t.Error(h.Count(icmpTold))
		}
	}
}

func TestP19_12NilAndMemory(t *testing.T) {
	var none *Host
	for _, h := range []*Host{none, {}} {
		if h.SetAddr(addr1, 24, 0) != api.ErrArg || h.Addr() != 0 || len(h.Frame(nil, 0, 0)) != 0 || len(h.Tick(0, 0)) != 0 || len(h.Segments([]api.Segment{{}}, 0)) != 0 || h.Hub() != nil || h.Bind(1, 0, 1) != api.ErrArg || h.Connect(1, 0, 1) != api.ErrArg || h.Free(1) || h.Count(0) != 0 {
			t.Error("a nil or zero Host")
		}
		if l, err := h.Packet(api.Packet{}, 0); len(l) != 0 || err != api.ErrArg {
			t.Error(err)
		}
		if p, err := h.Pick(1, 0, 1); p != 0 || err != api.ErrArg {
			t.Error(err)
		}
		if l, err := h.Send(api.Datagram{}, 0); len(l) != 0 || err != api.ErrArg {
			t.Error(err)
		}
		if _, err := h.Recv(0); err != api.ErrArg {
			t.Error(err)
		}
		if n, wrong := h.Waits(0); n != 0 || wrong {
			t.Error(n, wrong)
		}
		if l, err := h.Join(group1, 0, 0); len(l) != 0 || err != api.ErrArg {
			t.Error(err)
		}
		if l, err := h.Leave(group1, 0); len(l) != 0 || err != api.ErrArg {
			t.Error(err)
		}
	}
	h := fresh(t)
	data := []byte("abc")
	h.Send(api.Datagram{To: addr2, FromPort: 1, ToPort: 2, Data: data}, 0)
	data[0] = 'x'
	is(t, "what waited", h.Frame(arpFrame(2, addr2, addr1), 1, 0), "udp 1 2 abc 10.0.0.1 10.0.0.2 > 02")
	h.Bind(1, addr1, 9)
	f := ipFrame(udpPacket(addr2, 5, addr1, 9, "abc"))
	h.Frame(f, 1, 0)
	for i := range f {
		f[i] = 0
	}
	if d, _ := h.Recv(1); string(d.Data) != "abc" {
		t.Errorf("%q", d.Data)
	}
	g := *h
	l, _ := g.Send(api.Datagram{To: addr2, FromPort: 1, ToPort: 2}, 1)
	if len(l) != 1 {
		t.Error("a copy does not work")
	}
}
