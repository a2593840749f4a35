// Package whole tests the promises of the complete program, which involve several layers.
package whole

import (
	"bytes"
	"math"
	"slices"
	"strconv"
	"testing"

	"wharf/api"
	"wharf/arp"
	"wharf/ether"
	"wharf/frag"
	"wharf/host"
	"wharf/icmp"
	"wharf/igmp"
	"wharf/ipv4"
	"wharf/lease"
	"wharf/name"
	"wharf/octet"
	"wharf/resolve"
	"wharf/segment"
	"wharf/sock"
	"wharf/udp"
	"wharf/world"
)

const (
	addr0 = api.Addr(0x0a000001)
	addr1 = api.Addr(0x0a000002)
)

func config(i int) api.HostConfig {
	return api.HostConfig{MAC: api.MAC{2, 0, 0, 0, 0, byte(i + 1)}, Addr: addr0 + api.Addr(i), Bits: 24}
}

func fresh(t *testing.T) *world.World {
	t.Helper()
	w, err := world.New(config(0), config(1))
	if err != api.OK {
		t.Fatal(err)
	}
	return w
}

// source is draws.
type source uint32

func (s *source) draw(n int) int {
	*s = *s*1664525 + 1013904223
	return int(*s>>8) % n
}

func (s *source) bytes(n int) []byte {
	b := make([]byte, n)
	for i := range b {
		b[i] = byte(s.draw(256))
	}
	return b
}

// number is one that may be anything.
func (s *source) number() int {
	all := []int{0, 1, -1, 2, 6, 17, 80, 1000, 65535, 65536, api.MaxTick, api.MaxTick + 1, math.MaxInt, math.MinInt, 1 << 20, s.draw(100)}
	return all[s.draw(len(all))]
}

func call(host int, c api.Call) api.Step {
	return api.Step{Kind: api.StepCall, Host: host, Call: c}
}

// joined is a world with a connection: socket 0 of host 0, socket 1 of host 1; their calls do not wait.
func joined(t *testing.T) *world.World {
	t.Helper()
	w := fresh(t)
	for _, s := range []api.Step{
		call(1, api.Call{Kind: api.CallSocket, N: 6}),
		call(1, api.Call{Kind: api.CallBind, Port: 80}),
		call(1, api.Call{Kind: api.CallListen, N: 3}),
		call(1, api.Call{Kind: api.CallAccept}),
		call(0, api.Call{Kind: api.CallSocket, N: 6}),
		call(0, api.Call{Kind: api.CallConnect, Addr: addr1, Port: 80}),
	} {
		w.Do(s)
	}
	l, _ := w.Settle(2)
	if len(l) != 2 || l[0].Err != api.OK || l[1].Err != api.OK || l[1].N != 1 {
		t.Fatal(l)
	}
	for i := range 2 {
		w.Do(call(i, api.Call{Kind: api.CallOption, Fd: i, N: api.OptNoBlock, Port: 1}))
	}
	return w
}

// packetFrame is a packet to a host in a frame.
func packetFrame(p api.Packet, to api.MAC) []byte {
	b, _ := ipv4.Encode(p)
	f, _ := ether.Encode(api.Frame{To: to, From: api.MAC{2, 0, 0, 0, 0, 99}, Kind: api.KindIP, Data: b})
	return f
}

// likely is a frame that goes far: most of it is as it should be.
func likely(s *source, to int) []byte {
	mac := config(to).MAC
	addrs := []api.Addr{addr0, addr1, addr0 + 5, api.Broadcast, 0xe0000001, 0xe0010203, 0}
	from, dest := addrs[s.draw(len(addrs))], addr0+api.Addr(to)
	if s.draw(4) == 0 {
		dest = addrs[s.draw(len(addrs))]
	}
	data := s.bytes(s.draw(40) / 8 * 8)
	p := api.Packet{ID: s.draw(5), More: s.draw(3) == 0, Offset: s.draw(3) * 8, Life: 9, Proto: []int{1, 2, 6, 17, 50}[s.draw(5)], From: from, To: dest, Data: data}
	if s.draw(2) == 0 {
		p.More, p.Offset = false, 0
	}
	switch p.Proto {
	case api.ProtoICMP:
		p.Data, _ = icmp.Encode(api.ICMP{Type: []int{0, 3, 8, 11}[s.draw(4)], Code: s.draw(4), Data: data})
	case api.ProtoIGMP:
		p.Data, _ = igmp.Encode(api.IGMP{Type: []int{0x11, 0x16, 0x17}[s.draw(3)], Max: s.draw(256), Group: addrs[s.draw(len(addrs))]})
	case api.ProtoTCP:
		p.Data, _ = segment.Encode(api.Segment{From: from, FromPort: 80 + s.draw(3), To: dest, ToPort: 80 + s.draw(3), Seq: uint32(s.draw(20)), Ack: uint32(s.draw(20)), Flags: s.draw(64), Window: s.draw(65536), MSS: s.draw(3) * 100, Scale: s.draw(16) - 1, Data: data})
	case api.ProtoUDP:
		p.Data, _ = udp.Encode(api.Datagram{From: from, FromPort: s.draw(100), To: dest, ToPort: 78 + s.draw(6), Data: data})
	}
	if s.draw(6) == 0 {
		b, _ := arp.Encode(api.ARP{Op: 1 + s.draw(2), FromMAC: api.MAC{2, byte(s.draw(9))}, From: addr0 + api.Addr(s.draw(30)), To: dest})
		f, _ := ether.Encode(api.Frame{To: mac, From: api.MAC{2, 0, 0, 0, 0, 99}, Kind: api.KindARP, Data: b})
		return f
	}
	return packetFrame(p, mac)
}

// anyCall is a call of any kind.
func anyCall(s *source) api.Call {
	c := api.Call{Kind: s.draw(17), Thread: s.draw(34) - 1, Fd: s.draw(8) - 1, Addr: addr0 + api.Addr(s.draw(3)), Port: 78 + s.draw(6), N: 1 + s.draw(20), Data: s.bytes(s.draw(300)), Now: s.number(), Draw: s.number()}
	switch s.draw(6) {
	case 0:
		c.Port = s.number()
	case 1:
		c.N = s.number()
	case 2:
		c.Addr = api.Addr(s.draw(1 << 24))
	case 3:
		c.N = []int{6, 17}[s.draw(2)]
	}
	return c
}

func TestP0_1AnyBytes(t *testing.T) {
	for seed := range source(20) {
		s := seed
		stack, err := sock.New(config(0))
		if err != api.OK {
			t.Fatal(err)
		}
		var own [][]byte
		now, mac := 0, config(0).MAC
		for range 3000 {
			if s.draw(100) == 0 {
				now = s.number()
			} else {
				now = min(now, math.MaxInt-9) + s.draw(9)
			}
			switch s.draw(5) {
			case 0:
				c := anyCall(&s)
				c.Now = now
				_, frames := stack.Do(c)
				own = append(own, frames...)
			case 1:
				stack.Tick(now, s.number())
			case 2:
				stack.Frame(s.bytes(s.draw(100)), now, s.number())
			case 3:
				f := likely(&s, 0)
				if s.draw(3) == 0 {
					f[s.draw(len(f))] = byte(s.draw(256))
				}
				stack.Frame(f, now, s.number())
			default:
				if len(own) > 0 {
					f := own[s.draw(len(own))]
					own = own[max(0, len(own)-20):]
					copy(f, mac[:])
					stack.Frame(f, now, s.number())
				}
			}
			conns, listeners := stack.Host().Hub().Count()
			if conns > api.MaxConns || listeners > api.MaxListen || len(stack.Waiting()) > api.MaxThreads {
				t.Fatal(conns, listeners, stack.Waiting())
			}
			for id := range api.MaxSockets {
				if n, _ := stack.Host().Waits(id); n > api.MaxQueue {
					t.Fatal(n)
				}
			}
		}
	}
}

// TestP0_1Ticks: with ticks beyond the range, and those that go back, nothing panics.
func TestP0_1Ticks(t *testing.T) {
	for seed := range source(20) {
		s := seed
		c := lease.New(api.MAC{2})
		r, _ := resolve.New([]api.Addr{addr1}, 4000)
		h, _ := host.New(config(0))
		for range 500 {
			c.Start(s.number(), s.number())
			c.Hear(api.Lease{Op: 2, ID: uint32(s.number()), Client: api.MAC{2}, Type: s.draw(8), Yours: addr0, Server: addr1, Time: s.number()}, s.number(), s.number())
			c.Tick(s.number(), s.number())
			r.Ask("n"+strconv.Itoa(s.draw(50)), s.number(), s.number())
			r.Tick(s.number(), s.number())
			h.Frame(likely(&s, 0), s.number(), s.number())
			h.Join(api.Group+api.Addr(s.draw(30)), s.number(), s.number())
			h.Tick(s.number(), s.number())
		}
	}
}

// talk has both sides of a joined world send, shut and receive all, and holds what comes against what was sent.
type talk struct {
	t    *testing.T
	w    *world.World
	s    *source
	most [2]int
	sent [2][]byte
	got  [2][]byte
	shut [2]bool
	done [2]bool
}

func (k *talk) do(s api.Step) []api.Return {
	l, _, _ := k.w.Do(s)
	return l
}

func (k *talk) round() {
	for i := range 2 {
		if n := min(k.most[i]-len(k.sent[i]), 1+k.s.draw(700)); n > 0 {
			p := k.s.bytes(n)
			if r := k.do(call(i, api.Call{Kind: api.CallSend, Fd: i, Data: p}))[0]; r.Err == api.OK {
				k.sent[i] = append(k.sent[i], p[:r.N]...)
			}
		} else if !k.shut[i] {
			k.shut[i] = true
			k.do(call(i, api.Call{Kind: api.CallShut, Fd: i}))
		}
		if k.done[i] {
			continue
		}
		r := k.do(call(i, api.Call{Kind: api.CallRecv, Fd: i, N: 1 + k.s.draw(900)}))[0]
		if r.Err == api.OK {
			k.got[i] = append(k.got[i], r.Data...)
			k.done[i] = r.N == 0
		}
		if !bytes.HasPrefix(k.sent[1-i], k.got[i]) {
			k.t.Fatal("not the beginning of what was sent")
		}
		if k.done[i] && (!k.shut[1-i] || len(k.got[i]) != k.most[1-i]) {
			k.t.Fatal("the end before all bytes")
		}
	}
}

func TestP0_2AndP0_3Stream(t *testing.T) {
	for seed := range source(20) {
		s := seed
		k := &talk{t: t, w: joined(t), s: &s, most: [2]int{5000 + s.draw(9000), 1 + s.draw(400)}}
		for round := 0; !k.done[0] || !k.done[1]; round++ {
			k.round()
			to, _ := k.w.Flight()
			for range to {
				n, _ := k.w.Flight()
				if len(n) == 0 {
					break
				}
				step := api.Step{Kind: api.StepGive, At: s.draw(min(len(n), 3))}
				if round < 200 {
					step.Kind = []int{api.StepGive, api.StepGive, api.StepGive, api.StepGive, api.StepLose, api.StepTwice}[s.draw(6)]
				}
				k.do(step)
			}
			k.do(api.Step{Kind: api.StepTick, N: 1})
			if round > 20000 {
				t.Fatal(seed, "it does not end", len(k.got[0]), len(k.got[1]))
			}
		}
	}
}

// TestP0_3Calls: calls that wait return once the frames are delivered.
func TestP0_3Calls(t *testing.T) {
	w := joined(t)
	for i := range 2 {
		w.Do(call(i, api.Call{Kind: api.CallOption, Fd: i, N: api.OptNoBlock}))
	}
	got := 0
	take := func(l []api.Return) {
		for _, r := range l {
			if r.Err != api.OK {
				t.Error(r)
			}
			got++
		}
	}
	do := func(s api.Step) {
		l, _, _ := w.Do(s)
		take(l)
	}
	do(call(1, api.Call{Kind: api.CallRecv, Thread: 1, Fd: 1, N: 5}))
	do(call(1, api.Call{Kind: api.CallRecv, Thread: 2, Fd: 1, N: 5}))
	do(call(0, api.Call{Kind: api.CallSend, Data: make([]byte, 40000)}))
	for range 20000 {
		l, _ := w.Settle(1)
		take(l)
		if l, _, _ := w.Do(call(1, api.Call{Kind: api.CallRecv, Thread: 3, Fd: 1, N: 3000})); len(l) > 0 {
			continue
		}
		break
	}
	do(call(0, api.Call{Kind: api.CallClose}))
	l, _ := w.Settle(10)
	take(l)
	if got != 5 {
		t.Error(got, "calls have returned")
	}
}

func TestP0_4Altered(t *testing.T) {
	for seed := range source(10) {
		s := seed
		k := &talk{t: t, w: joined(t), s: &s, most: [2]int{3000, 300}}
		altered := 0
		for round := 0; !k.done[0] || !k.done[1]; round++ {
			k.round()
			_, frames := k.w.Flight()
			for at, f := range frames {
				decoded, _ := ether.Decode(f)
				if p, err := ipv4.Decode(decoded.Data); err == api.OK && p.Proto == api.ProtoTCP {
					k.do(api.Step{Kind: api.StepTwice, At: at})
					now, _ := k.w.Flight()
					k.do(api.Step{Kind: api.StepAlter, At: len(now) - 1, N: 34 + s.draw(len(p.Data)), By: byte(1 + s.draw(255))})
					k.do(api.Step{Kind: api.StepGive, At: len(now) - 1})
					altered++
				}
			}
			k.w.Settle(1)
			if round > 2000 {
				t.Fatal("it does not end")
			}
		}
		if altered == 0 {
			t.Error("nothing was altered")
		}
	}
}

func TestP0_5RoundTrips(t *testing.T) {
	s := source(1)
	for range 200 {
		n, data := uint32(s.draw(1<<24))<<8, s.bytes(s.draw(200))
		var w octet.Writer
		w.Four(n)
		w.Raw(data)
		if r := octet.NewReader(w.Bytes()); r.Four() != n || !bytes.Equal(r.Raw(len(data)), data) {
			t.Error("octet")
		}
		long := append(bytes.Clone(data), make([]byte, 46)...)
		f := api.Frame{To: api.MAC{1}, From: api.MAC{2}, Kind: 0x0800, Data: long}
		b, _ := ether.Encode(f)
		if g, err := ether.Decode(b); err != api.OK || g.To != f.To || g.From != f.From || !bytes.Equal(g.Data, long) {
			t.Error("ether")
		}
		a := api.ARP{Op: 1, From: api.Addr(n), To: addr1, ToMAC: api.MAC{9}}
		b, _ = arp.Encode(a)
		if g, err := arp.Decode(b); err != api.OK || g != a {
			t.Error("arp")
		}
		p := api.Packet{ID: s.draw(65536), Life: 5, Proto: 17, From: api.Addr(n), To: addr1, Data: s.bytes(1 + s.draw(3000))}
		b, _ = ipv4.Encode(p)
		if g, err := ipv4.Decode(b); err != api.OK || g.ID != p.ID || g.From != p.From || !bytes.Equal(g.Data, p.Data) {
			t.Error("ipv4")
		}
		pieces, _ := frag.Split(p, 500)
		var store frag.Store
		for i, piece := range pieces {
			g, ok, err := store.Add(piece, 0)
			if err != api.OK || ok != (i == len(pieces)-1) || ok && !bytes.Equal(g.Data, p.Data) {
				t.Error("frag")
			}
		}
		m := api.ICMP{Type: s.draw(256), Code: s.draw(256), Rest: n, Data: data}
		b, _ = icmp.Encode(m)
		if g, err := icmp.Decode(b); err != api.OK || g.Type != m.Type || g.Rest != n || !bytes.Equal(g.Data, data) {
			t.Error("icmp")
		}
		i := api.IGMP{Type: s.draw(256), Max: s.draw(256), Group: api.Addr(n)}
		b, _ = igmp.Encode(i)
		if g, err := igmp.Decode(b); err != api.OK || g != i {
			t.Error("igmp")
		}
		d := api.Datagram{From: api.Addr(n), FromPort: s.draw(65536), To: addr1, ToPort: 5, Data: data}
		b, _ = udp.Encode(d)
		if g, err := udp.Decode(d.From, d.To, b); err != api.OK || g.FromPort != d.FromPort || !bytes.Equal(g.Data, data) {
			t.Error("udp")
		}
		seg := api.Segment{From: api.Addr(n), FromPort: 5, To: addr1, ToPort: 6, Seq: n, Ack: ^n, Flags: s.draw(64), Window: s.draw(65536), MSS: s.draw(65536), Scale: s.draw(16) - 1, Data: data}
		b, _ = segment.Encode(seg)
		if g, err := segment.Decode(seg.From, seg.To, b); err != api.OK || g.Seq != n || g.Ack != ^n || g.Flags != seg.Flags || g.MSS != seg.MSS || g.Scale != seg.Scale || !bytes.Equal(g.Data, data) {
			t.Error("segment")
		}
		q := api.Message{ID: 5, Question: []api.Record{{Name: "a.b", Type: 1, Class: 1}}, Answer: []api.Record{{Name: "c", Type: 16, Class: 1, TTL: s.draw(1000), Data: data}}}
		b, _ = name.Encode(q)
		if g, err := name.Decode(b); err != api.OK || g.Question[0].Name != "a.b" || g.Answer[0].TTL != q.Answer[0].TTL || !bytes.Equal(g.Answer[0].Data, data) {
			t.Error("name")
		}
		l := api.Lease{Op: 2, ID: n, Yours: addr1, Client: api.MAC{2}, Type: 5, Server: addr0, Time: s.draw(1 << 30), Router: api.Addr(n)}
		b, _ = lease.Encode(l)
		if g, err := lease.Decode(b); err != api.OK || g != l {
			t.Error("lease")
		}
	}
}

func TestP0_6RateLimits(t *testing.T) {
	h, _ := host.New(config(0))
	s := source(5)
	told, most := 0, 0
	for now := range 400 {
		for range 5 {
			p := api.Packet{Life: 9, Proto: 50, From: addr1, To: addr0, Data: s.bytes(20)}
			before := h.Count(9)
			sent := h.Frame(packetFrame(p, config(0).MAC), now, 0)
			told += h.Count(9) - before
			most = max(most, len(sent))
		}
		if told > 10+now/20+1 {
			t.Fatal(told, "errors up to tick", now)
		}
		h.Tick(now, 0)
	}
	if told < 10 || most > 48 || h.Count(10) == 0 {
		t.Error(told, most)
	}
	big, _ := icmp.Encode(api.ICMP{Type: api.Echo, Data: make([]byte, 65000)})
	pieces, _ := frag.Split(api.Packet{ID: 3, Life: 9, Proto: api.ProtoICMP, From: addr1, To: addr0, Data: big}, api.MTU)
	b, _ := arp.Encode(api.ARP{Op: 1, FromMAC: config(1).MAC, From: addr1, To: addr0})
	f, _ := ether.Encode(api.Frame{To: config(0).MAC, From: config(1).MAC, Kind: api.KindARP, Data: b})
	h.Frame(f, 400, 0)
	for i, piece := range pieces {
		sent := h.Frame(packetFrame(piece, config(0).MAC), 400, 0)
		if len(sent) > 48 || (len(sent) > 0) != (i == len(pieces)-1) {
			t.Error(i, len(sent))
		}
	}
}

// TestP0_7Names: a resolver asks a server by the sockets of a world.
func TestP0_7Names(t *testing.T) {
	w := fresh(t)
	for i, port := range []int{4000, 53} {
		w.Do(call(i, api.Call{Kind: api.CallSocket, N: 17}))
		w.Do(call(i, api.Call{Kind: api.CallBind, Port: port}))
	}
	r, _ := resolve.New([]api.Addr{addr1}, 4000)
	_, asked := r.Ask("www.example", w.Now(), 5)
	send := func(i int, d api.Datagram) {
		w.Do(call(i, api.Call{Kind: api.CallSendTo, Addr: d.To, Port: d.ToPort, Data: d.Data}))
		w.Settle(1)
	}
	recv := func(i int) api.Datagram {
		l, _, _ := w.Do(call(i, api.Call{Kind: api.CallRecvFrom, N: 65535}))
		if len(l) != 1 || l[0].Err != api.OK {
			t.Fatal(l)
		}
		return api.Datagram{From: l[0].Addr, FromPort: l[0].Port, To: addr0 + api.Addr(i), ToPort: []int{4000, 53}[i], Data: l[0].Data}
	}
	send(0, asked[0])
	question := recv(1)
	m, err := name.Decode(question.Data)
	if err != api.OK || m.Question[0].Name != "www.example" {
		t.Fatal(m, err)
	}
	m.Flags |= api.Response
	m.Answer = []api.Record{{Name: "www.example", Type: api.TypeA, Class: api.ClassIN, TTL: 3, Data: []byte{1, 2, 3, 4}}}
	reply, _ := name.Encode(m)
	forged := m
	forged.ID++
	wrong, _ := name.Encode(forged)
	send(1, api.Datagram{To: question.From, ToPort: question.FromPort, Data: wrong})
	if found, _ := r.Hear(recv(0), w.Now(), 0); len(found) != 0 {
		t.Error("an answer to no question of its own:", found)
	}
	send(1, api.Datagram{To: question.From, ToPort: question.FromPort, Data: reply})
	found, _ := r.Hear(recv(0), w.Now(), 0)
	if len(found) != 1 || found[0].Err != api.OK || !slices.Equal(found[0].Addrs, []api.Addr{0x01020304}) {
		t.Error(found)
	}
	if found, _ := r.Ask("WWW.example", w.Now()+29, 0); len(found) != 1 {
		t.Error("not kept")
	}
	if found, _ := r.Ask("www.example", w.Now()+30, 0); len(found) != 0 {
		t.Error("kept too long")
	}
}

// TestP0_7Leases: a host has just the address that its client has.
func TestP0_7Leases(t *testing.T) {
	h, _ := host.New(api.HostConfig{MAC: api.MAC{2, 7}})
	c := lease.New(api.MAC{2, 7})
	apply := func(now int) {
		l, ok := c.Has()
		a, bits := l.Yours, 24
		if !ok {
			bits = 0
		}
		if h.Addr() != a && h.SetAddr(a, bits, l.Router) != api.OK {
			t.Error("SetAddr", l)
		}
		if ok != (now >= 5 && now < 5+100) || h.Addr() != l.Yours {
			t.Error(now, l, h.Addr())
		}
	}
	tell := func(kind int) api.Lease {
		b, _ := lease.Encode(api.Lease{Op: 2, ID: 9, Client: api.MAC{2, 7}, Type: kind, Yours: addr0, Server: addr1, Time: 10, Router: addr1})
		m, err := lease.Decode(b)
		if err != api.OK {
			t.Fatal(err)
		}
		return m
	}
	for now := range 200 {
		var out []api.Lease
		switch now {
		case 0:
			out = c.Start(now, 9)
		case 3:
			out = c.Hear(tell(api.Offer), now, 0)
		case 5:
			out = c.Hear(tell(api.Acked), now, 0)
		default:
			out = c.Tick(now, 10)
		}
		for _, m := range out {
			b, err := lease.Encode(m)
			if err != api.OK {
				t.Error(err)
			}
			frames, err := h.Send(api.Datagram{FromPort: 68, To: api.Broadcast, ToPort: 67, Data: b}, now)
			if len(frames) != 1 || err != api.OK {
				t.Error(err)
			}
		}
		apply(now)
	}
}

func TestP0_8Determinism(t *testing.T) {
	for seed := range source(20) {
		s := seed
		a, b := fresh(t), fresh(t)
		for range 1500 {
			step := api.Step{Kind: 1 + s.draw(6), Host: s.draw(2), Call: anyCall(&s), At: s.draw(6), N: s.draw(70), By: byte(s.draw(256))}
			if s.draw(20) == 0 {
				step.Kind = api.StepAlter
			} else if step.Kind == api.StepAlter || step.Kind == api.StepLose {
				step.Kind = api.StepGive
			}
			l, of, err := a.Do(step)
			m, of2, err2 := b.Do(step)
			if err != err2 || !slices.Equal(of, of2) || !slices.EqualFunc(l, m, func(x, y api.Return) bool {
				return x.Thread == y.Thread && x.Err == y.Err && x.N == y.N && x.Addr == y.Addr && x.Port == y.Port && bytes.Equal(x.Data, y.Data)
			}) {
				t.Fatal("other Returns of the same step", l, m)
			}
			to, frames := a.Flight()
			to2, frames2 := b.Flight()
			if !slices.Equal(to, to2) || !slices.EqualFunc(frames, frames2, bytes.Equal) || a.Now() != b.Now() {
				t.Fatal("other frames of the same step")
			}
		}
	}
}
