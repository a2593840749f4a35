package conn

import (
	"wharf/api"
	"wharf/segment"
	"wharf/seq"
)

// Arrive is told a segment.
func (c *Conn) Arrive(s api.Segment, now int) []api.Segment {
	if c.none() || invalid(s) {
		return nil
	}
	t := &turn{Conn: c, now: now}
	t.arrivals()[t.state](s)
	return t.sent
}

// arrivals is what is done with a segment, by the state.
func (t *turn) arrivals() [api.TimeWait + 1]func(api.Segment) {
	return [...]func(api.Segment){
		api.Closed:      t.ignore,
		api.Listen:      t.ignore,
		api.SynSent:     t.answered,
		api.SynReceived: t.process,
		api.Established: t.process,
		api.FinWait1:    t.process,
		api.FinWait2:    t.process,
		api.CloseWait:   t.process,
		api.Closing:     t.process,
		api.LastAck:     t.process,
		api.TimeWait:    t.process,
	}
}

func (t *turn) ignore(api.Segment) {}

// answered is what a segment does in SynSent.
func (t *turn) answered(s api.Segment) {
	acks := s.Flags&api.Ack != 0
	switch {
	case acks && (!after(s.Ack, t.config.ISS) || after(s.Ack, t.top)):
		t.reset(segment.Reset(s))
		return
	case s.Flags&api.Rst != 0:
		if acks {
			t.finish(api.ErrRefused)
		}
		return
	case s.Flags&api.Syn == 0:
		return
	}
	t.adopt(s)
	if !acks {
		t.state = api.SynReceived
		t.sendSyn()
		t.again.start(t.now, t.clock.Wait())
		return
	}
	t.state = api.Established
	t.una = s.Ack
	t.tries = 0
	t.again.stop()
	t.sample(s.Ack)
	t.hearPeer()
	t.required = true
	t.sendAll(0)
}

// process takes the steps that a segment goes through in every state behind SynSent; each of them tells whether to go on.
func (t *turn) process(s api.Segment) {
	goOn := true
steps:
	for _, step := range [...]func(api.Segment) bool{
		t.fits,
		t.resets,
		t.isPlain,
		t.establish,
		t.acknowledged,
		t.finAcknowledged,
		t.take,
	} {
		goOn = step(s)
		if !goOn {
			break steps
		}
	}
	if goOn {
		t.sendAll(0)
	}
}

// fits is the step of the window.
func (t *turn) fits(s api.Segment) bool {
	if seq.Fits(s.Seq, segment.Length(s), t.next, t.in.Free()) {
		return true
	}
	if s.Flags&api.Rst == 0 {
		t.acknowledge()
	}
	if t.state == api.TimeWait && s.Flags&api.Fin != 0 {
		t.rest.start(t.now, api.TwoMSL)
	}
	return false
}

// resets is the step of the reset.
func (t *turn) resets(s api.Segment) bool {
	if s.Flags&api.Rst == 0 {
		return true
	}
	if s.Seq != t.next {
		t.acknowledge()
		return false
	}
	switch t.state {
	case api.Closing, api.LastAck, api.TimeWait:
		t.finish(api.OK)
	case api.SynReceived:
		t.finish(api.ErrRefused)
	default:
		t.finish(api.ErrReset)
	}
	return false
}

// isPlain sends segments away that have a SYN or do not acknowledge.
func (t *turn) isPlain(s api.Segment) bool {
	if s.Flags&api.Syn != 0 {
		t.acknowledge()
		return false
	}
	return s.Flags&api.Ack != 0
}

// hearPeer begins to wait anew for the peer to say nothing.
func (t *turn) hearPeer() {
	if (t.state == api.Established || t.state == api.CloseWait) && t.config.Keep != 0 {
		t.keep.start(t.now, t.config.Keep)
	} else {
		t.keep.stop()
	}
}

// establish is what is done before the acknowledgement is looked at: our SYN may be what it acknowledges.
func (t *turn) establish(s api.Segment) bool {
	t.asked = 0
	t.hearPeer()
	if t.state != api.SynReceived {
		return true
	}
	if !after(s.Ack, t.una) || after(s.Ack, t.top) {
		t.reset(segment.Reset(s))
		return false
	}
	t.state = api.Established
	if t.shut {
		t.state = api.FinWait1
	}
	t.hearPeer()
	t.wnd, t.wseq, t.wack = s.Window<<t.shift, s.Seq, s.Ack
	return true
}

// sample tells the Clock how long it took till a number was acknowledged.
func (t *turn) sample(ack uint32) {
	if t.timed && seq.Less(t.timedSeq, ack) {
		t.clock.Sample(t.now - t.timedAt)
		t.timed = false
	} else {
		t.clock.Calm()
	}
}

// acknowledged is the step of the acknowledgements, up to the window that the peer tells.
func (t *turn) acknowledged(s api.Segment) bool {
	wnd := s.Window << t.shift
	switch {
	case after(s.Ack, t.top):
		t.acknowledge()
		return false
	case after(s.Ack, t.una):
		t.advance(s.Ack)
	case s.Ack == t.una && segment.Length(s) == 0 && wnd == t.wnd && seq.Less(t.una, t.top):
		if t.cong.Same(seq.Diff(t.top, t.una), t.top) {
			t.sendFirst()
		}
	}
	if seq.Less(t.wseq, s.Seq) || t.wseq == s.Seq && !after(t.wack, s.Ack) {
		t.wnd, t.wseq, t.wack = wnd, s.Seq, s.Ack
	}
	if t.wnd == 0 {
		t.tries = 0
	}
	return true
}

// advance takes what a new acknowledgement is of.
func (t *turn) advance(ack uint32) {
	removed := t.out.Drop(seq.Diff(ack, t.una))
	t.una = ack
	t.nxt = seq.Max(t.nxt, t.una)
	t.tries = 0
	t.sample(ack)
	if t.cong.Acked(removed, t.una) {
		t.sendFirst()
	}
	if t.una == t.top {
		t.again.stop()
	} else {
		t.again.start(t.now, t.clock.Wait())
	}
}

// restNow is the beginning of TimeWait.
func (t *turn) restNow() {
	t.state = api.TimeWait
	for _, one := range t.timers() {
		one.stop()
	}
	t.rest.start(t.now, api.TwoMSL)
}

// finAcknowledged is what is done when our FIN was acknowledged.
func (t *turn) finAcknowledged(api.Segment) bool {
	if !t.shut || !seq.Less(t.end, t.una) {
		return true
	}
	switch t.state {
	case api.FinWait1:
		t.state = api.FinWait2
	case api.Closing:
		t.restNow()
	case api.LastAck:
		t.finish(api.OK)
		return false
	}
	return true
}

// take is the steps of the data and of the end of the stream.
func (t *turn) take(s api.Segment) bool {
	switch t.state {
	case api.Established, api.FinWait1, api.FinWait2:
		if len(s.Data) > 0 {
			t.takeData(s)
		}
		t.takeEnd(s)
	}
	return true
}

// takeData takes the bytes that lie within our window.
func (t *turn) takeData(s api.Segment) {
	first, many := seq.Trim(s.Seq, len(s.Data), t.next, t.in.Free())
	before := t.ahead.Held()
	b := t.ahead.Put(seq.Diff(s.Seq, t.next)+first, s.Data[first:first+many])
	t.in.Write(b)
	t.next += uint32(len(b))
	t.owed++
	if len(b) == 0 || before > 0 || t.ahead.Held() > 0 || t.owed != 1 {
		t.required = true
	} else if !t.ack.set {
		t.ack.start(t.now, api.AckDelay)
	}
}

// takeEnd takes the end of the peer's stream, when it is its turn.
func (t *turn) takeEnd(s api.Segment) {
	if s.Flags&api.Fin != 0 && !t.known {
		at := s.Seq + uint32(len(s.Data))
		if d := seq.Diff(at, t.next); d >= 0 && d <= t.in.Free() {
			t.known, t.peerEnd = true, at
		}
	}
	if !t.known || t.passed || t.peerEnd != t.next {
		return
	}
	t.passed = true
	t.next++
	t.required = true
	switch t.state {
	case api.Established:
		t.state = api.CloseWait
	case api.FinWait1:
		t.state = api.Closing
	case api.FinWait2:
		t.restNow()
	}
}
