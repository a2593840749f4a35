package host

import (
	"wharf/api"
	"wharf/arp"
	"wharf/ether"
	"wharf/frag"
	"wharf/icmp"
	"wharf/igmp"
	"wharf/ipv4"
)

const (
	usualLife = 64
	groupLife = 1
	arpAsks   = 1
	arpTells  = 2
)

// outbox collects what one call sends.
type outbox struct {
	frames [][]byte
	own    []api.Packet // packets to the host itself, which are still to be processed
	owned  int          // how many of these there were
}

// turn is one call.
type turn struct {
	outbox
	now, draw int
}

// everybody is the address that all hosts take.
func everybody() api.MAC { return api.MAC{0xff, 0xff, 0xff, 0xff, 0xff, 0xff} }

// frame sends a frame.
func (m *machine) frame(t *turn, to api.MAC, kind int, data []byte) {
	b, err := ether.Encode(api.Frame{To: to, From: m.mac, Kind: kind, Data: data})
	if err != api.OK {
		return
	}
	t.frames = append(t.frames, b)
	m.count(framesOut)
}

// sendARP sends an ARP packet.
func (m *machine) sendARP(t *turn, to api.MAC, p api.ARP) {
	p.From, p.FromMAC = m.addr, m.mac
	if b, err := arp.Encode(p); err == api.OK {
		m.frame(t, to, api.KindARP, b)
	}
}

// ask asks whose an address is.
func (m *machine) ask(t *turn, a api.Addr) {
	m.sendARP(t, everybody(), api.ARP{Op: arpAsks, To: a})
	m.count(arpAsked)
}

// send sends a packet; its ID is the next one.
func (m *machine) send(t *turn, p api.Packet) api.Errno {
	p.ID = m.nextID
	m.nextID = m.nextID%mostID + 1
	if _, err := ipv4.Encode(p); err != api.OK {
		return err
	}
	switch {
	case m.isMine(p.To):
		m.keepOwn(t, p)
		return api.OK
	case m.isBroadcast(p.To):
		return m.spread(t, p, everybody())
	case p.To >= api.Group && p.To < behindGroup:
		return m.spread(t, p, ether.OfGroup(p.To))
	}
	return m.forward(t, p)
}

// keepOwn keeps a packet to the host itself till the end of the call.
func (m *machine) keepOwn(t *turn, p api.Packet) {
	if t.owned >= api.MaxOwn {
		m.count(droppedFull)
		return
	}
	t.owned++
	t.own = append(t.own, p)
}

// finish processes the packets to the host itself; it is the end of every call that sends.
func (m *machine) finish(t *turn) [][]byte {
	for len(t.own) > 0 {
		p := t.own[0]
		t.own = t.own[1:]
		m.deliver(t, p)
	}
	return t.frames
}

// pieces are a packet's fragments, encoded.
func pieces(p api.Packet) ([][]byte, api.Errno) {
	l, err := frag.Split(p, api.MTU)
	if err != api.OK {
		return nil, err
	}
	var out [][]byte
	for _, piece := range l {
		b, err := ipv4.Encode(piece)
		if err != api.OK {
			return nil, err
		}
		out = append(out, b)
	}
	return out, api.OK
}

// spread sends a packet to many at once.
func (m *machine) spread(t *turn, p api.Packet, to api.MAC) api.Errno {
	l, err := pieces(p)
	for _, b := range l {
		m.frame(t, to, api.KindIP, b)
	}
	return err
}

// forward sends a packet to its next hop.
func (m *machine) forward(t *turn, p api.Packet) api.Errno {
	r, err := m.routes.Find(p.To)
	if err != api.OK {
		m.count(notRouted)
		return api.ErrNoRoute
	}
	hop := r.Via
	if hop == 0 {
		hop = p.To
	}
	l, err := pieces(p)
	for _, b := range l {
		told := m.near.Send(hop, b, t.now)
		switch {
		case told.Known:
			m.frame(t, told.MAC, api.KindIP, b)
		case told.Ask:
			m.ask(t, hop)
		case told.Full:
			m.count(droppedFull)
		}
	}
	return err
}

// report tells the sender of a packet what is wrong with it, as far as that may be told.
func (m *machine) report(t *turn, p api.Packet, kind, code int) {
	if !m.isMine(p.To) || !icmp.May(p) {
		return
	}
	if !m.bucket.Take(t.now) {
		m.count(icmpHeld)
		return
	}
	m.count(icmpTold)
	m.sendICMP(t, api.ICMP{Type: kind, Code: code, Data: icmp.Quote(p)}, p.To, p.From)
}

// sendICMP sends an ICMP message.
func (m *machine) sendICMP(t *turn, message api.ICMP, from, to api.Addr) {
	if b, err := icmp.Encode(message); err == api.OK {
		m.send(t, api.Packet{Life: usualLife, Proto: api.ProtoICMP, From: from, To: to, Data: b})
	}
}

// tellGroups sends messages about groups.
func (m *machine) tellGroups(t *turn, l []api.IGMP) {
	for _, message := range l {
		to := message.Group
		if message.Type == api.Leave {
			to = allRouters
		}
		if b, err := igmp.Encode(message); err == api.OK {
			m.send(t, api.Packet{Life: groupLife, Proto: api.ProtoIGMP, From: m.addr, To: to, Data: b})
		}
	}
}
