package host

import (
	"wharf/api"
	"wharf/arp"
	"wharf/icmp"
	"wharf/igmp"
	"wharf/ipv4"
	"wharf/segment"
	"wharf/udp"
)

// takeARP takes an ARP packet.
func (m *machine) takeARP(t *turn, b []byte) {
	p, err := arp.Decode(b)
	if err != api.OK {
		m.count(malformed)
		return
	}
	asked := p.Op == arpAsks && m.isMine(p.To)
	if p.From != 0 && !m.isMine(p.From) {
		for _, waited := range m.near.Learn(p.From, p.FromMAC, t.now, asked) {
			m.frame(t, p.FromMAC, api.KindIP, waited)
		}
	}
	if asked {
		m.sendARP(t, p.FromMAC, api.ARP{Op: arpTells, To: p.From, ToMAC: p.FromMAC})
	}
}

// takeIP takes an IPv4 packet out of a frame.
func (m *machine) takeIP(t *turn, b []byte) {
	p, err := ipv4.Decode(b)
	if err != api.OK {
		m.count(malformed)
		return
	}
	if !m.isLocal(p.To) || p.From >= api.Group || m.isMine(p.From) {
		m.count(notOurs)
		return
	}
	m.deliver(t, p)
}

// deliver is local delivery: of a packet of a frame, or of one of the host itself.
func (m *machine) deliver(t *turn, p api.Packet) {
	if p.More || p.Offset > 0 {
		m.count(fragments)
		whole, done, err := m.store.Add(p, t.now)
		if err != api.OK {
			m.count(malformed)
			return
		}
		if !done {
			return
		}
		m.count(putTogether)
		p = whole
	}
	take, ok := m.protocols[p.Proto]
	if !ok {
		m.report(t, p, api.Unreachable, api.NoProto)
		return
	}
	take(t, p)
}

// takeICMP takes an ICMP message.
func (m *machine) takeICMP(t *turn, p api.Packet) {
	message, err := icmp.Decode(p.Data)
	if err != api.OK {
		m.count(malformed)
		return
	}
	switch message.Type {
	case api.Echo:
		if m.isMine(p.To) {
			message.Type = api.EchoReply
			m.sendICMP(t, message, p.To, p.From)
		}
	case api.Unreachable:
		m.takeUnreachable(message)
	}
}

// takeUnreachable lets the one whose datagram did not arrive know.
func (m *machine) takeUnreachable(message api.ICMP) {
	f, err := icmp.Flow(message.Data)
	if err != api.OK || f.Proto != api.ProtoUDP {
		return
	}
	// A binding with a peer takes precedence: if the one that would hear an answer has none, no other one has.
	id, ok := m.ports.Find(api.Datagram{From: f.To, FromPort: f.ToPort, To: f.From, ToPort: f.FromPort})
	if !ok || m.peered[id] == 0 {
		return
	}
	m.box(id).wrong = api.ErrUnreach
	if message.Code == api.NoPort {
		m.box(id).wrong = api.ErrRefused
	}
}

// takeIGMP takes a message about groups.
func (m *machine) takeIGMP(t *turn, p api.Packet) {
	message, err := igmp.Decode(p.Data)
	if err != api.OK {
		m.count(malformed)
		return
	}
	m.groups.Hear(message, t.now, t.draw)
}

// takeUDP takes a datagram.
func (m *machine) takeUDP(t *turn, p api.Packet) {
	d, err := udp.Decode(p.From, p.To, p.Data)
	if err != api.OK {
		m.count(malformed)
		return
	}
	m.count(udpIn)
	id, ok := m.ports.Find(d)
	if !ok {
		m.count(udpNoPort)
		m.report(t, p, api.Unreachable, api.NoPort)
		return
	}
	b := m.box(id)
	if len(b.queue) >= api.MaxQueue {
		m.count(droppedFull)
		return
	}
	b.queue = append(b.queue, d)
}

// takeTCP takes a segment.
func (m *machine) takeTCP(t *turn, p api.Packet) {
	s, err := segment.Decode(p.From, p.To, p.Data)
	if err != api.OK {
		m.count(malformed)
		return
	}
	if !m.isMine(p.To) {
		m.count(notOurs)
		return
	}
	m.count(tcpIn)
	base := api.Config{ISS: uint32(t.draw), MSS: segmentMSS, SendRoom: api.SockRoom, RecvRoom: api.SockRoom, Scale: windowScale}
	m.sendSegments(t, m.hub.Arrive(s, base, t.now))
}
