package conn

import (
	"wharf/api"
	"wharf/seq"
)

// window is our window as a segment tells it.
func (c *Conn) window(shift int) int { return min(c.in.Free()>>shift, 65535) }

// send sends a segment of ours.
func (t *turn) send(at uint32, flags int, data []byte) {
	s := api.Segment{
		From: t.config.Local, FromPort: t.config.LocalPort,
		To: t.config.Peer, ToPort: t.config.PeerPort,
		Seq: at, Flags: flags, Scale: noScale, Data: data,
	}
	if t.state != api.SynSent {
		s.Flags |= api.Ack
		s.Ack = t.next
	}
	shift := t.ours
	if flags&api.Syn != 0 {
		shift = 0
		s.MSS = t.config.MSS
		if !t.unscaled {
			s.Scale = t.config.Scale
		}
	}
	s.Window = t.window(shift)
	t.sent = append(t.sent, s)
	t.told = t.next + uint32(s.Window<<shift)
	t.owed = 0
	t.ack.stop()
	t.required = false
}

// sendSyn sends our SYN.
func (t *turn) sendSyn() { t.send(t.config.ISS, api.Syn, nil) }

// acknowledge sends an acknowledgement.
func (t *turn) acknowledge() { t.send(t.nxt, 0, nil) }

// reset sends what resets the connection that a segment is of.
func (t *turn) reset(s api.Segment, ok bool) {
	if ok {
		t.sent = append(t.sent, s)
	}
}

// after tells whether a number is after another one.
func after(a, b uint32) bool { return seq.Less(b, a) }

// sends tells whether bytes and the FIN may be sent in this state.
func (c *Conn) sends() bool {
	switch c.state {
	case api.Established, api.CloseWait, api.FinWait1, api.Closing, api.LastAck:
		return true
	}
	return false
}

// left is how many bytes there are from nxt on.
func (c *Conn) left() int { return max(c.out.Len()-seq.Diff(c.nxt, c.una), 0) }

// finLeft tells whether the FIN is still to be sent.
func (c *Conn) finLeft() bool { return c.shut && !after(c.nxt, c.end) }

// sendAll sends what it can, where the limit is at least that many bytes.
func (t *turn) sendAll(atLeast int) {
	if t.sends() {
		for t.sendNext(atLeast) {
		}
		if t.nxt == t.una && !t.again.set && (t.left() > 0 || t.finLeft()) {
			t.again.start(t.now, t.clock.Wait())
		}
	}
	if t.required {
		t.acknowledge()
	}
}

// sendNext sends the next bytes, the FIN or both, if they may be sent now.
func (t *turn) sendNext(atLeast int) bool {
	limit := max(min(t.wnd, t.cong.Window()), atLeast)
	underWay := seq.Diff(t.nxt, t.una)
	left := t.left()
	n := max(min(t.mss, left, limit-underWay), 0)
	fin := t.finLeft() && n == left && underWay+n < limit
	switch {
	case n == 0 && !fin:
		return false
	case n < t.mss && n < left && underWay > 0:
		return false
	case n < t.mss && n == left && !fin && underWay > 0 && !t.config.NoDelay:
		return false
	}
	t.sendItem(n, fin)
	return true
}

// sendItem sends n bytes from nxt on, and the FIN or not.
func (t *turn) sendItem(n int, fin bool) {
	flags := 0
	if n > 0 && n == t.left() {
		flags |= api.Psh
	}
	if fin {
		flags |= api.Fin
	}
	t.send(t.nxt, flags, t.out.Peek(seq.Diff(t.nxt, t.una), n))
	if !t.timed && t.nxt == t.top {
		t.timed, t.timedSeq, t.timedAt = true, t.nxt, t.now
	}
	t.nxt += uint32(n)
	if fin {
		t.nxt++
	}
	t.top = seq.Max(t.top, t.nxt)
	if !t.again.set {
		t.again.start(t.now, t.clock.Wait())
	}
}

// sendFirst sends the first segment again.
func (t *turn) sendFirst() {
	sent := seq.Diff(t.top, t.una)
	finSent := t.shut && after(t.top, t.end)
	if finSent {
		sent--
	}
	b := t.out.Peek(0, min(t.mss, sent))
	flags := 0
	if len(b) > 0 {
		flags |= api.Psh
	}
	if finSent && t.una+uint32(len(b)) == t.end {
		flags |= api.Fin
	}
	t.send(t.una, flags, b)
	t.timed = false
}

// Tick is what is sent at a tick.
func (c *Conn) Tick(now int) []api.Segment {
	if c.none() {
		return nil
	}
	t := &turn{Conn: c, now: now}
	if t.rest.over(now) {
		t.finish(api.OK)
		return nil
	}
	if t.ack.over(now) {
		t.acknowledge()
	}
	if t.again.over(now) {
		t.tryAgain()
	}
	if t.keep.over(now) && (t.state == api.Established || t.state == api.CloseWait) {
		t.ask()
	}
	return t.sent
}

// tryAgain sends again what was not acknowledged in time.
func (t *turn) tryAgain() {
	if t.tries >= api.MaxTries {
		t.finish(api.ErrTimeout)
		return
	}
	t.tries++
	t.clock.Back()
	t.timed = false
	t.again.start(t.now, t.clock.Wait())
	switch {
	case t.state == api.SynSent || t.state == api.SynReceived:
		t.sendSyn()
	case t.una == t.top && t.left() > 0:
		t.sendItem(1, false)
	case t.una == t.top:
		if t.finLeft() {
			t.sendItem(0, true)
		}
	default:
		t.cong.Lost(seq.Diff(t.top, t.una))
		t.nxt = t.una
		t.sendAll(1)
	}
}

// ask asks a peer that has long said nothing.
func (t *turn) ask() {
	if t.asked >= api.MaxTries {
		t.finish(api.ErrTimeout)
		return
	}
	t.asked++
	t.keep.start(t.now, t.config.Keep)
	t.send(t.una-1, 0, nil)
}
