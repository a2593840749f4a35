package conn

import (
	"bytes"
	"math"
	"strconv"
	"strings"
	"testing"

	"wharf/api"
)

const (
	addrA = api.Addr(0x0a000001)
	addrB = api.Addr(0x0a000002)
)

func configA() api.Config {
	return api.Config{Local: addrA, LocalPort: 1000, Peer: addrB, PeerPort: 80, ISS: 100, MSS: 1460, SendRoom: 8192, RecvRoom: 8192, Scale: 2}
}

func configB() api.Config {
	return api.Config{Local: addrB, LocalPort: 80, Peer: addrA, PeerPort: 1000, ISS: 500, MSS: 1460, SendRoom: 8192, RecvRoom: 8192, Scale: 2}
}

func made(t *testing.T, c api.Config) *Conn {
	t.Helper()
	x, err := New(c)
	if err != api.OK {
		t.Fatal(err)
	}
	return x
}

// show is segments as text: flags, Seq, Ack, how many bytes.
func show(l []api.Segment) string {
	var out []string
	for _, s := range l {
		f := ""
		for i, c := range "FSRPAU" {
			if s.Flags>>i&1 != 0 {
				f += string(c)
			}
		}
		x := f + " " + strconv.Itoa(int(s.Seq))
		if s.Flags&api.Ack != 0 {
			x += "/" + strconv.Itoa(int(s.Ack))
		}
		if len(s.Data) > 0 {
			x += "+" + strconv.Itoa(len(s.Data))
		}
		out = append(out, x)
	}
	return strings.Join(out, ", ")
}

// is holds what was sent against a text.
func is(t *testing.T, what string, l []api.Segment, want string) []api.Segment {
	t.Helper()
	if got := show(l); got != want {
		t.Errorf("%s: %q, want %q", what, got, want)
	}
	return l
}

func state(t *testing.T, c *Conn, want int, why api.Errno) {
	t.Helper()
	if s, e := c.State(); s != want || e != why {
		t.Errorf("state %d, %v; want %d, %v", s, e, want, why)
	}
}

func due(t *testing.T, c *Conn, want int) {
	t.Helper()
	at, ok := c.Due()
	if want < 0 && (at != 0 || ok) || want >= 0 && (at != want || !ok) {
		t.Errorf("due %d, %v; want %d", at, ok, want)
	}
}

func connect(c *Conn, now int) []api.Segment {
	l, _ := c.Connect(now)
	return l
}

func shut(c *Conn, now int) []api.Segment {
	l, _ := c.Shut(now)
	return l
}

func send(t *testing.T, c *Conn, p string, now int) []api.Segment {
	t.Helper()
	n, l, err := c.Send([]byte(p), now)
	if n != len(p) || err != api.OK {
		t.Errorf("Send: %d, %v", n, err)
	}
	return l
}

// joined is two connections that are established, at tick 0.
func joined(t *testing.T, ca, cb api.Config) (a, b *Conn) {
	t.Helper()
	a, b = made(t, ca), made(t, cb)
	l, err := b.Accept(connect(a, 0)[0], 0)
	if err != api.OK {
		t.Fatal(err)
	}
	l = a.Arrive(l[0], 0)
	if got := b.Arrive(l[0], 0); len(got) != 0 {
		t.Fatal(show(got))
	}
	state(t, a, api.Established, api.OK)
	state(t, b, api.Established, api.OK)
	return a, b
}

// seg is a segment of the peer of a connection of configA.
func seg(flags int, at, ack uint32, window int, data string) api.Segment {
	return api.Segment{From: addrB, FromPort: 80, To: addrA, ToPort: 1000, Flags: flags, Seq: at, Ack: ack, Window: window, Scale: -1, Data: []byte(data)}
}

func TestP17_1New(t *testing.T) {
	change := func(f func(c *api.Config)) api.Config {
		c := configA()
		f(&c)
		return c
	}
	for i, c := range []api.Config{
		change(func(c *api.Config) { c.LocalPort = 0 }),
		change(func(c *api.Config) { c.LocalPort = 65536 }),
		change(func(c *api.Config) { c.PeerPort = 0 }),
		change(func(c *api.Config) { c.PeerPort = 65536 }),
		change(func(c *api.Config) { c.MSS = 63 }),
		change(func(c *api.Config) { c.MSS = 65536 }),
		change(func(c *api.Config) { c.SendRoom = 0 }),
		change(func(c *api.Config) { c.SendRoom = api.MaxSend + 1 }),
		change(func(c *api.Config) { c.RecvRoom = 0 }),
		change(func(c *api.Config) { c.RecvRoom = api.MaxRecv + 1 }),
		change(func(c *api.Config) { c.Scale = -2 }),
		change(func(c *api.Config) { c.Scale = 15 }),
		change(func(c *api.Config) { c.Keep = -1 }),
		change(func(c *api.Config) { c.Keep = api.MaxTick + 1 }),
	} {
		if x, err := New(c); err != api.ErrArg || x != nil {
			t.Error(i, err)
		}
	}
	for i, c := range []api.Config{
		configA(),
		change(func(c *api.Config) {
			c.LocalPort, c.PeerPort, c.MSS, c.SendRoom, c.RecvRoom, c.Scale = 1, 1, 64, 1, 1, -1
		}),
		change(func(c *api.Config) {
			c.LocalPort, c.PeerPort, c.MSS, c.SendRoom, c.RecvRoom, c.Scale, c.Keep = 65535, 65535, 65535, api.MaxSend, api.MaxRecv, 14, api.MaxTick
		}),
	} {
		if _, err := New(c); err != api.OK {
			t.Error(i, err)
		}
	}
	a := made(t, configA())
	state(t, a, api.Closed, api.OK)
	due(t, a, -1)
	if len(a.Arrive(seg(api.Syn, 500, 0, 10, ""), 0)) != 0 || len(a.Tick(99)) != 0 {
		t.Error("a new connection does something")
	}
	if n, l, err := a.Send(nil, 0); n != 0 || len(l) != 0 || err != api.ErrNotConn {
		t.Error(n, err)
	}
	if _, _, err := a.Recv(0, 0); err != api.ErrNotConn {
		t.Error(err)
	}
}

func TestP17_2Connect(t *testing.T) {
	a := made(t, configA())
	l, err := a.Connect(5)
	is(t, "Connect", l, "S 100")
	s := l[0]
	if err != api.OK || s.MSS != 1460 || s.Scale != 2 || s.Window != 8192 || s.From != addrA || s.FromPort != 1000 || s.To != addrB || s.ToPort != 80 || s.Ack != 0 {
		t.Error(s, err)
	}
	state(t, a, api.SynSent, api.OK)
	due(t, a, 35)
	if l, err := a.Connect(6); err != api.ErrIsConn || len(l) != 0 {
		t.Error(err)
	}
	if l, err := a.Accept(seg(api.Syn, 1, 0, 1, ""), 6); err != api.ErrIsConn || len(l) != 0 {
		t.Error(err)
	}
	if l, err := a.Accept(seg(api.Rst, 1, 0, 1, ""), 6); err != api.ErrIsConn || len(l) != 0 {
		t.Error(err)
	}
	c := configA()
	c.Scale, c.RecvRoom = -1, api.MaxRecv
	if l := connect(made(t, c), 0); l[0].Scale != -1 || l[0].Window != 65535 {
		t.Error(l)
	}
}

func TestP17_3Accept(t *testing.T) {
	for i, s := range []api.Segment{
		seg(0, 1, 0, 1, ""), seg(api.Syn|api.Ack, 1, 1, 1, ""), seg(api.Syn|api.Rst, 1, 1, 1, ""), seg(api.Syn|api.Fin, 1, 1, 1, ""),
		seg(api.Syn, 1, 0, -1, ""), seg(api.Syn, 1, 0, 65536, ""), seg(64|api.Syn, 1, 0, 1, ""),
	} {
		a := made(t, configA())
		if l, err := a.Accept(s, 0); err != api.ErrArg || len(l) != 0 {
			t.Error(i, err)
		}
		if _, err := a.Connect(0); err != api.OK {
			t.Error("a refused Accept begins it")
		}
	}
	b := made(t, configB())
	s := seg(api.Syn, 0xffffffff, 0, 700, "xyz")
	s.Scale = 3
	l, err := b.Accept(s, 4)
	is(t, "Accept", l, "SA 500/0")
	if err != api.OK || l[0].MSS != 1460 || l[0].Scale != 2 || l[0].Window != 8192 {
		t.Error(l, err)
	}
	state(t, b, api.SynReceived, api.OK)
	due(t, b, 34)
	b = made(t, configB())
	if l, _ := b.Accept(seg(api.Syn, 9, 0, 700, ""), 4); l[0].Scale != -1 {
		t.Error("a Scale answers none")
	}
	is(t, "the SYN again", b.Tick(34), "SA 500/10")
	if _, err := b.Accept(seg(api.Syn, 9, 0, 700, ""), 4); err != api.ErrIsConn {
		t.Error(err)
	}
}

func TestP17_3Sizes(t *testing.T) {
	for _, c := range []struct{ ours, theirs, want int }{{1460, 0, 536}, {1460, 10, 64}, {1460, 700, 700}, {500, 700, 500}, {100, 0, 100}} {
		cb := configB()
		cb.MSS, cb.NoDelay = c.ours, true
		b := made(t, cb)
		s := seg(api.Syn, 9, 0, 60000, "")
		s.MSS = c.theirs
		b.Accept(s, 0)
		b.Arrive(seg(api.Ack, 10, 501, 60000, ""), 0)
		_, l, _ := b.Send(make([]byte, 1500), 0)
		if len(l) == 0 || len(l[0].Data) != c.want {
			t.Error(c, show(l))
		}
	}
}

func TestTheExample(t *testing.T) {
	a, b := made(t, configA()), made(t, configB())
	l := is(t, "Connect", connect(a, 0), "S 100")
	l, err := b.Accept(l[0], 1)
	is(t, "Accept", l, "SA 500/101")
	if err != api.OK {
		t.Error(err)
	}
	l = is(t, "a", a.Arrive(l[0], 2), "A 101/501")
	is(t, "b", b.Arrive(l[0], 3), "")
	l = is(t, "Send", send(t, a, "ab", 4), "PA 101/501+2")
	is(t, "b", b.Arrive(l[0], 5), "")
	due(t, b, 9)
	is(t, "b", b.Tick(8), "")
	l = is(t, "b", b.Tick(9), "A 501/103")
	is(t, "a", a.Arrive(l[0], 9), "")
	if p, l, err := b.Recv(9, 9); string(p) != "ab" || len(l) != 0 || err != api.OK {
		t.Error(p, l, err)
	}
	l = is(t, "Shut", shut(a, 10), "FA 103/501")
	state(t, a, api.FinWait1, api.OK)
	l = is(t, "b", b.Arrive(l[0], 11), "A 501/104")
	state(t, b, api.CloseWait, api.OK)
	is(t, "a", a.Arrive(l[0], 11), "")
	state(t, a, api.FinWait2, api.OK)
	l = is(t, "Shut", shut(b, 12), "FA 501/104")
	state(t, b, api.LastAck, api.OK)
	l = is(t, "a", a.Arrive(l[0], 13), "A 104/502")
	state(t, a, api.TimeWait, api.OK)
	due(t, a, 133)
	is(t, "b", b.Arrive(l[0], 14), "")
	state(t, b, api.Closed, api.OK)
	due(t, b, -1)
	is(t, "a", a.Tick(132), "")
	state(t, a, api.TimeWait, api.OK)
	is(t, "a", a.Tick(400), "")
	state(t, a, api.Closed, api.OK)
	due(t, a, -1)
	if p, _, err := b.Recv(5, 15); len(p) != 0 || err != api.OK {
		t.Error("the end of the stream:", p, err)
	}
}

func TestP17_4SynSent(t *testing.T) {
	a := made(t, configA())
	connect(a, 0)
	is(t, "an Ack not after ISS", a.Arrive(seg(api.Syn|api.Ack, 500, 100, 10, ""), 1), "R 100")
	is(t, "an Ack after top", a.Arrive(seg(api.Ack, 500, 102, 10, ""), 1), "R 102")
	is(t, "a reset with such an Ack", a.Arrive(seg(api.Rst|api.Ack, 500, 102, 10, ""), 1), "")
	is(t, "a reset without Ack", a.Arrive(seg(api.Rst, 500, 0, 10, ""), 1), "")
	is(t, "no SYN", a.Arrive(seg(api.Ack, 500, 101, 10, ""), 1), "")
	is(t, "neither", a.Arrive(seg(api.Fin, 500, 0, 10, "xx"), 1), "")
	is(t, "an invalid one", a.Arrive(seg(64|api.Syn|api.Ack, 500, 101, 10, ""), 1), "")
	state(t, a, api.SynSent, api.OK)
	due(t, a, 30)
	is(t, "a reset", a.Arrive(seg(api.Rst|api.Ack, 500, 101, 10, ""), 1), "")
	state(t, a, api.Closed, api.ErrRefused)
	due(t, a, -1)

	a = made(t, configA())
	connect(a, 0)
	is(t, "both", a.Arrive(seg(api.Syn|api.Ack, 500, 101, 10, ""), 12), "A 101/501")
	state(t, a, api.Established, api.OK)
	due(t, a, -1)
	if smooth, vary := a.clock.Seen(); smooth != 96 || vary != 24 {
		t.Error("the sample:", smooth, vary)
	}
	if a.wnd != 10 || a.shift != 0 || a.ours != 0 || a.mss != 536 {
		t.Error(a.wnd, a.shift, a.ours, a.mss)
	}
}

func TestP17_4BothConnect(t *testing.T) {
	cb := configB()
	cb.Scale = -1
	a, b := made(t, configA()), made(t, cb)
	sa, sb := connect(a, 0)[0], connect(b, 0)[0]
	la := is(t, "a", a.Arrive(sb, 7), "SA 100/501")
	if la[0].Scale != -1 || la[0].MSS != 1460 {
		t.Error(la[0])
	}
	state(t, a, api.SynReceived, api.OK)
	due(t, a, 37)
	lb := is(t, "b", b.Arrive(sa, 8), "SA 500/101")
	is(t, "a", a.Arrive(lb[0], 9), "A 101/501")
	is(t, "b", b.Arrive(la[0], 9), "A 501/101")
	state(t, a, api.SynReceived, api.OK)
	is(t, "a", a.Arrive(seg(api.Ack, 501, 101, 44, ""), 10), "")
	state(t, a, api.Established, api.OK)
	if smooth, _ := a.clock.Seen(); smooth != 80 || a.wnd != 44 {
		t.Error(smooth, a.wnd)
	}
}

func TestP17_4AfterASecondSyn(t *testing.T) {
	a := made(t, configA())
	connect(a, 0)
	is(t, "the SYN again", a.Tick(30), "S 100")
	a.Arrive(seg(api.Syn|api.Ack, 500, 101, 10, ""), 31)
	if smooth, _ := a.clock.Seen(); smooth != 0 || a.clock.Wait() != api.FirstRTO {
		t.Error("a sample of what was sent twice, or no Calm")
	}
}

func TestP17_5Window(t *testing.T) {
	a, _ := joined(t, configA(), configB())
	is(t, "before the window", a.Arrive(seg(api.Ack, 499, 101, 10, "xx"), 1), "A 101/501")
	is(t, "behind the window", a.Arrive(seg(api.Ack, 501+8192, 101, 10, "x"), 1), "A 101/501")
	is(t, "a reset before it", a.Arrive(seg(api.Rst, 500, 101, 10, ""), 1), "")
	is(t, "a reset behind it", a.Arrive(seg(api.Rst, 501+8192, 101, 10, ""), 1), "")
	is(t, "a reset within", a.Arrive(seg(api.Rst, 502, 101, 10, ""), 1), "A 101/501")
	is(t, "a SYN", a.Arrive(seg(api.Syn|api.Ack, 501, 101, 10, ""), 1), "A 101/501")
	is(t, "no Ack", a.Arrive(seg(api.Psh, 501, 101, 10, "xx"), 1), "")
	is(t, "an Ack of what was not sent", a.Arrive(seg(api.Ack, 501, 102, 10, "xx"), 1), "A 101/501")
	state(t, a, api.Established, api.OK)
	if _, recv, _ := a.Room(); recv != 0 || a.wnd != 2048<<2 {
		t.Error("one of these changed something:", recv, a.wnd)
	}
	is(t, "the last byte of the window", a.Arrive(seg(api.Ack, 501+8191, 101, 10, "xy"), 1), "A 101/501")
	if a.ahead.Held() != 1 {
		t.Error(a.ahead.Held())
	}
	is(t, "a reset", a.Arrive(seg(api.Rst, 501, 0, 10, ""), 1), "")
	state(t, a, api.Closed, api.ErrReset)
	is(t, "closed", a.Arrive(seg(api.Ack, 501, 101, 10, "x"), 1), "")
}

// TestP17_5NothingElse: behind the step that ends the processing, no later step is taken.
func TestP17_5NothingElse(t *testing.T) {
	a, _ := joined(t, configA(), configB())
	is(t, "a reset with all else", a.Arrive(seg(api.Rst|api.Ack|api.Fin, 501, 999, 9, "xy"), 1), "")
	state(t, a, api.Closed, api.ErrReset)
	due(t, a, -1)
	a, _ = joined(t, configA(), configB())
	is(t, "a reset elsewhere with all else", a.Arrive(seg(api.Rst|api.Ack|api.Fin, 503, 999, 9, "xy"), 1), "A 101/501")
	if a.ahead.Held() != 0 || a.known {
		t.Error("its data are taken")
	}
	c := configA()
	c.Keep = 50
	a, _ = joined(t, c, configB())
	a.Arrive(seg(api.Rst|api.Ack, 501, 101, 9, ""), 1)
	due(t, a, -1)
}

func TestP17_5ResetInTimeWait(t *testing.T) {
	a, _ := joined(t, configA(), configB())
	shut(a, 1)
	a.Arrive(seg(api.Fin|api.Ack, 501, 102, 9, ""), 5)
	state(t, a, api.TimeWait, api.OK)
	is(t, "in TimeWait", a.Arrive(seg(api.Rst, 502, 0, 0, ""), 6), "")
	state(t, a, api.Closed, api.OK)
	a, _ = joined(t, configA(), configB())
	shut(a, 1)
	a.Arrive(seg(api.Ack, 501, 102, 9, ""), 5)
	is(t, "in FinWait2", a.Arrive(seg(api.Rst, 501, 0, 0, ""), 6), "")
	state(t, a, api.Closed, api.ErrReset)
}

func TestP17_5KeepIsStopped(t *testing.T) {
	ca, cb := configA(), configB()
	ca.Keep, cb.Keep = 50, 70
	a, b := joined(t, ca, cb)
	due(t, a, 50)
	due(t, b, 70)
	shut(a, 1)
	a.Arrive(seg(api.Ack, 501, 102, 9, ""), 5)
	state(t, a, api.FinWait2, api.OK)
	due(t, a, -1)
	b.Arrive(api.Segment{Flags: api.Fin | api.Ack, Seq: 101, Ack: 501, Scale: -1}, 6)
	due(t, b, 76)
	b.Arrive(api.Segment{Flags: api.Ack, Seq: 102, Ack: 501, Scale: -1}, 9)
	due(t, b, 79)
	b.Shut(10)
	b.Arrive(api.Segment{Flags: api.Ack, Seq: 102, Ack: 501, Scale: -1}, 11)
	due(t, b, 20)
}

func TestP17_5Tries(t *testing.T) {
	a := made(t, configA())
	connect(a, 0)
	a.Tick(30)
	a.Arrive(seg(api.Syn|api.Ack, 500, 101, 10, ""), 31)
	if a.tries != 0 {
		t.Error(a.tries)
	}
	a, _ = joined(t, configA(), configB())
	send(t, a, "abc", 0)
	a.Tick(10)
	a.Tick(30)
	a.Arrive(seg(api.Ack, 501, 101, 9, ""), 31)
	if a.tries != 2 {
		t.Error("an acknowledgement of nothing new:", a.tries)
	}
	a.Arrive(seg(api.Ack, 501, 102, 9, ""), 32)
	if a.tries != 0 {
		t.Error(a.tries)
	}
}

func TestP17_5BackAndAllTaken(t *testing.T) {
	c := configA()
	c.MSS = 100
	a, _ := joined(t, c, configB())
	is(t, "Send", send(t, a, strings.Repeat("z", 300), 5), "A 101/501+100, A 201/501+100")
	is(t, "the time is over", a.Tick(15), "A 101/501+100")
	is(t, "all was taken", a.Arrive(seg(api.Ack, 501, 301, 8192, ""), 16), "PA 301/501+100")
	if a.una != 301 || a.nxt != 401 || a.top != 401 {
		t.Error(a.una, a.nxt, a.top)
	}
}

func TestP17_5OneByteAhead(t *testing.T) {
	a, _ := joined(t, configA(), configB())
	is(t, "ahead", a.Arrive(seg(api.Ack, 505, 101, 9, "e"), 1), "A 101/501")
	is(t, "it waits yet", a.Arrive(seg(api.Ack, 501, 101, 9, "a"), 2), "A 101/502")
	is(t, "the gap", a.Arrive(seg(api.Ack, 502, 101, 9, "bcd"), 3), "A 101/506")
	if a.ahead.Held() != 0 {
		t.Error(a.ahead.Held())
	}
}

func TestP17_5OneSegmentIsEnough(t *testing.T) {
	a, _ := joined(t, configA(), configB())
	a.Arrive(seg(api.Ack, 501, 101, 0, ""), 1)
	is(t, "a shut window", send(t, a, "abc", 1), "")
	is(t, "data ahead, and a window", a.Arrive(seg(api.Ack, 505, 101, 9, "e"), 2), "PA 101/501+3")
}

func TestP17_5FirstAgain(t *testing.T) {
	c := configA()
	a, _ := joined(t, c, configB())
	a.Arrive(seg(api.Ack, 501, 101, 1, ""), 1)
	is(t, "a part", send(t, a, "abcdefgh", 1), "A 101/501+4")
	is(t, "the FIN does not fit", shut(a, 1), "")
	for i, want := range []string{"", "", "PA 101/501+4"} {
		is(t, "the same, "+strconv.Itoa(i), a.Arrive(seg(api.Ack, 501, 101, 1, ""), 6), want)
	}
	a, _ = joined(t, c, configB())
	a.Arrive(seg(api.Ack, 501, 101, 16000, ""), 0)
	is(t, "Shut", shut(a, 1), "FA 101/501")
	for i, want := range []string{"", "", "FA 101/501"} {
		is(t, "the same, "+strconv.Itoa(i), a.Arrive(seg(api.Ack, 501, 101, 16000, ""), 6), want)
	}
	c.MSS = 100
	a, _ = joined(t, c, configB())
	a.Arrive(seg(api.Ack, 501, 101, 16000, ""), 0)
	is(t, "Send", send(t, a, strings.Repeat("z", 150), 1), "A 101/501+100")
	is(t, "Shut", shut(a, 1), "FPA 201/501+50")
	for i, want := range []string{"", "", "PA 101/501+100"} {
		is(t, "the same, "+strconv.Itoa(i), a.Arrive(seg(api.Ack, 501, 101, 16000, ""), 6), want)
	}
}

func TestP17_5Resets(t *testing.T) {
	b := made(t, configB())
	b.Accept(seg(api.Syn, 9, 0, 700, ""), 0)
	is(t, "in SynReceived", b.Arrive(seg(api.Rst, 10, 0, 0, ""), 1), "")
	state(t, b, api.Closed, api.ErrRefused)

	a, _ := joined(t, configA(), configB())
	shut(a, 1)
	is(t, "in FinWait1", a.Arrive(seg(api.Rst, 501, 0, 0, ""), 1), "")
	state(t, a, api.Closed, api.ErrReset)

	a, _ = joined(t, configA(), configB())
	shut(a, 1)
	is(t, "the peer's FIN", a.Arrive(seg(api.Fin|api.Ack, 501, 101, 9, ""), 1), "A 102/502")
	state(t, a, api.Closing, api.OK)
	is(t, "in Closing", a.Arrive(seg(api.Rst, 502, 0, 0, ""), 1), "")
	state(t, a, api.Closed, api.OK)

	a, _ = joined(t, configA(), configB())
	a.Arrive(seg(api.Fin|api.Ack, 501, 101, 9, ""), 1)
	state(t, a, api.CloseWait, api.OK)
	c := *a
	is(t, "in CloseWait", c.Arrive(seg(api.Rst, 502, 0, 0, ""), 1), "")
	state(t, &c, api.Closed, api.ErrReset)

	a, _ = joined(t, configA(), configB())
	a.Arrive(seg(api.Fin|api.Ack, 501, 101, 9, ""), 1)
	is(t, "Shut", shut(a, 2), "FA 101/502")
	state(t, a, api.LastAck, api.OK)
	is(t, "in LastAck", a.Arrive(seg(api.Rst, 502, 0, 0, ""), 1), "")
	state(t, a, api.Closed, api.OK)
}

func TestP17_5SynReceived(t *testing.T) {
	b := made(t, configB())
	b.Accept(seg(api.Syn, 9, 0, 700, ""), 0)
	is(t, "a wrong Ack", b.Arrive(seg(api.Ack, 10, 500, 5, ""), 1), "R 500")
	is(t, "a wrong Ack", b.Arrive(seg(api.Ack, 10, 502, 5, ""), 1), "R 502")
	is(t, "the SYN again", b.Arrive(seg(api.Syn, 9, 0, 5, ""), 1), "A 501/10")
	state(t, b, api.SynReceived, api.OK)
	if n, l, err := b.Send([]byte("x"), 1); n != 0 || len(l) != 0 || err != api.ErrAgain {
		t.Error(n, err)
	}
	is(t, "Shut", shut(b, 1), "")
	state(t, b, api.SynReceived, api.OK)
	is(t, "the Ack", b.Arrive(seg(api.Ack, 10, 501, 5, ""), 2), "FA 501/10")
	state(t, b, api.FinWait1, api.OK)

	b = made(t, configB())
	b.Accept(seg(api.Syn, 9, 0, 700, ""), 0)
	is(t, "with data", b.Arrive(seg(api.Ack|api.Fin, 10, 501, 5, "hello"), 2), "A 501/16")
	state(t, b, api.CloseWait, api.OK)
	if smooth, _ := b.clock.Seen(); smooth != 16 || b.wnd != 5 {
		t.Error(smooth, b.wnd)
	}
}

func TestP17_5Acknowledgements(t *testing.T) {
	c := configA()
	c.NoDelay = true
	a, _ := joined(t, c, configB())
	send(t, a, "0123456789", 10)
	due(t, a, 20)
	is(t, "a part", a.Arrive(seg(api.Ack, 501, 105, 100, ""), 15), "")
	if a.una != 105 || a.out.Len() != 6 || a.timed || a.wnd != 400 {
		t.Error(a.una, a.out.Len(), a.timed, a.wnd)
	}
	due(t, a, 15+a.clock.Wait())
	is(t, "an old one", a.Arrive(seg(api.Ack, 501, 101, 77, ""), 16), "")
	if a.una != 105 || a.wnd != 400 {
		t.Error("an old acknowledgement tells the window:", a.wnd)
	}
	a.tries = 3
	a.clock.Back()
	is(t, "the rest", a.Arrive(seg(api.Ack, 501, 111, 0, ""), 17), "")
	due(t, a, -1)
	if a.tries != 0 || a.wnd != 0 || a.out.Len() != 0 {
		t.Error(a.tries, a.wnd)
	}
	is(t, "the window is shut", send(t, a, "abc", 18), "")
	due(t, a, 18+a.clock.Wait())
}

func TestP17_5Samples(t *testing.T) {
	a, _ := joined(t, configA(), configB())
	send(t, a, "x", 10)
	send(t, a, "y", 11)
	a.clock.Back()
	a.Arrive(seg(api.Ack, 501, 102, 100, ""), 14)
	smooth, _ := a.clock.Seen()
	if smooth != 8+4-1 {
		t.Error("the sample:", smooth)
	}
	a.clock.Back()
	a.timed = false
	a.Arrive(seg(api.Ack, 501, 103, 100, ""), 30)
	if s, _ := a.clock.Seen(); s != smooth || a.clock.Wait() != 10 {
		t.Error("no Calm:", s, a.clock.Wait())
	}
}

func TestP17_5ThreeTheSame(t *testing.T) {
	a, _ := joined(t, configA(), configB())
	a.Arrive(seg(api.Ack, 501, 101, 16000, ""), 0)
	a.mss = 100
	l := send(t, a, strings.Repeat("z", 1000), 5)
	if len(l) != 10 || len(l[9].Data) != 100 || l[9].Flags != api.Ack|api.Psh || l[8].Flags != api.Ack {
		t.Fatal(show(l))
	}
	same := seg(api.Ack, 501, 101, 16000, "")
	is(t, "with data", a.Arrive(seg(api.Ack, 501, 101, 16000, "q"), 6), "")
	for i, want := range []string{"", "", "PA 101/502+100", ""} {
		same.Seq = 502
		is(t, "the same, "+strconv.Itoa(i), a.Arrive(same, 7), want)
	}
	if a.timed || !a.cong.Mending() {
		t.Error("it is timed, or not mending")
	}
	is(t, "a part", a.Arrive(seg(api.Ack, 502, 301, 16000, ""), 8), "PA 301/502+100")
	is(t, "all", a.Arrive(seg(api.Ack, 502, 1101, 16000, ""), 9), "")
	if a.cong.Mending() {
		t.Error("mending yet")
	}
	is(t, "nothing under way", a.Arrive(seg(api.Ack, 502, 1101, 16000, ""), 9), "")
}

func TestP17_5FirstAgainWithFin(t *testing.T) {
	a, _ := joined(t, configA(), configB())
	a.Arrive(seg(api.Ack, 501, 101, 16000, ""), 0)
	send(t, a, "abc", 5)
	is(t, "Shut", shut(a, 5), "FA 104/501")
	for i, want := range []string{"", "", "FPA 101/501+3"} {
		is(t, "the same, "+strconv.Itoa(i), a.Arrive(seg(api.Ack, 501, 101, 16000, ""), 6), want)
	}
}

func TestP17_5Data(t *testing.T) {
	a, _ := joined(t, configA(), configB())
	is(t, "the first", a.Arrive(seg(api.Ack, 501, 101, 9, "ab"), 1), "")
	due(t, a, 5)
	is(t, "the second", a.Arrive(seg(api.Ack, 503, 101, 9, "cd"), 2), "A 101/505")
	due(t, a, -1)
	is(t, "ahead", a.Arrive(seg(api.Ack, 507, 101, 9, "gh"), 3), "A 101/505")
	is(t, "twice", a.Arrive(seg(api.Ack, 501, 101, 9, "abcdE"), 3), "A 101/506")
	is(t, "the gap", a.Arrive(seg(api.Ack, 506, 101, 9, "f"), 3), "A 101/509")
	is(t, "and one", a.Arrive(seg(api.Ack, 509, 101, 9, "i"), 4), "")
	due(t, a, 8)
	if b, _, err := a.Recv(99, 5); string(b) != "abcdEfghi" || err != api.OK {
		t.Errorf("%q, %v", b, err)
	}
	is(t, "what we send acknowledges", send(t, a, "x", 5), "PA 101/510+1")
	if a.ack.set || a.owed != 0 {
		t.Error("ack is not stopped")
	}
	c := configA()
	c.RecvRoom = 10
	a, _ = joined(t, c, configB())
	is(t, "more than fits", a.Arrive(seg(api.Ack, 501, 101, 9, "0123456789XYZ"), 1), "")
	is(t, "ack", a.Tick(5), "A 101/511")
	is(t, "nothing fits", a.Arrive(seg(api.Ack, 511, 101, 9, "X"), 6), "A 101/511")
	if b, l, _ := a.Recv(4, 7); string(b) != "0123" || show(l) != "" {
		t.Error(show(l))
	}
	if b, l, _ := a.Recv(3, 7); string(b) != "456" || show(l) != "" {
		t.Error(show(l))
	}
	if b, l, _ := a.Recv(1, 7); string(b) != "7" || show(l) != "A 101/511" || l[0].Window != 8>>2 {
		t.Error(show(l))
	}
}

func TestP17_5End(t *testing.T) {
	a, _ := joined(t, configA(), configB())
	is(t, "the end ahead", a.Arrive(seg(api.Fin|api.Ack, 503, 101, 9, "cd"), 1), "A 101/501")
	state(t, a, api.Established, api.OK)
	is(t, "another end", a.Arrive(seg(api.Fin|api.Ack, 502, 101, 9, ""), 1), "")
	if a.peerEnd != 505 {
		t.Error(a.peerEnd)
	}
	is(t, "the gap", a.Arrive(seg(api.Ack, 501, 101, 9, "ab"), 1), "A 101/506")
	state(t, a, api.CloseWait, api.OK)
	is(t, "data behind the end", a.Arrive(seg(api.Ack, 506, 101, 9, "zz"), 1), "")
	if b, _, _ := a.Recv(99, 2); string(b) != "abcd" {
		t.Errorf("%q", b)
	}
	if b, _, err := a.Recv(99, 2); len(b) != 0 || err != api.OK {
		t.Errorf("%q, %v", b, err)
	}
	if _, recv, end := a.Room(); recv != 0 || !end {
		t.Error(recv, end)
	}
	c := configA()
	c.RecvRoom = 10
	a, _ = joined(t, c, configB())
	a.Arrive(seg(api.Fin|api.Ack, 503, 101, 9, "0123456789"), 1)
	if a.known {
		t.Error("an end too far ahead is known")
	}
	a.Arrive(seg(api.Fin|api.Ack, 503, 101, 9, "01234567"), 1)
	if !a.known || a.peerEnd != 511 {
		t.Error("an end just behind the window:", a.known, a.peerEnd)
	}
}

func TestP17_5Ends(t *testing.T) {
	a, _ := joined(t, configA(), configB())
	shut(a, 1)
	is(t, "both at once", a.Arrive(seg(api.Fin|api.Ack, 501, 101, 9, ""), 5), "A 102/502")
	state(t, a, api.Closing, api.OK)
	is(t, "ours is acknowledged", a.Arrive(seg(api.Ack, 502, 102, 9, ""), 6), "")
	state(t, a, api.TimeWait, api.OK)
	due(t, a, 126)
	is(t, "the FIN again", a.Arrive(seg(api.Fin|api.Ack, 501, 102, 9, ""), 50), "A 102/502")
	due(t, a, 170)
	is(t, "an old segment", a.Arrive(seg(api.Ack, 400, 102, 9, "x"), 60), "A 102/502")
	due(t, a, 170)
	is(t, "rest", a.Tick(170), "")
	state(t, a, api.Closed, api.OK)

	a, _ = joined(t, configA(), configB())
	shut(a, 1)
	is(t, "all at once", a.Arrive(seg(api.Fin|api.Ack, 501, 102, 9, "xy"), 5), "A 102/504")
	state(t, a, api.TimeWait, api.OK)
	due(t, a, 125)
}

func TestP17_6Tick(t *testing.T) {
	a := made(t, configA())
	connect(a, 0)
	now := 0
	for i, wait := range []int{30, 60, 120, 240, 480, 600, 600, 600} {
		now += wait
		is(t, "early", a.Tick(now-1), "")
		is(t, strconv.Itoa(i), a.Tick(now), "S 100")
	}
	state(t, a, api.SynSent, api.OK)
	is(t, "the last time", a.Tick(now+600), "")
	state(t, a, api.Closed, api.ErrTimeout)
	due(t, a, -1)
	if _, _, err := a.Send([]byte("x"), 0); err != api.ErrTimeout {
		t.Error(err)
	}
	if _, _, err := a.Recv(1, 0); err != api.ErrNotConn {
		t.Error("told twice:", err)
	}
	if _, _, err := a.Send([]byte("x"), 0); err != api.ErrPipe {
		t.Error(err)
	}
}

func TestP17_6AgainWithData(t *testing.T) {
	c := configA()
	c.MSS = 100
	a, _ := joined(t, c, configB())
	is(t, "Send", send(t, a, strings.Repeat("z", 500), 5), "A 101/501+100, A 201/501+100")
	is(t, "early", a.Tick(14), "")
	is(t, "the time is over", a.Tick(15), "A 101/501+100")
	due(t, a, 35)
	if a.nxt != 201 || a.top != 301 || a.timed {
		t.Error(a.nxt, a.top, a.timed)
	}
	is(t, "a slow start", a.Arrive(seg(api.Ack, 501, 201, 8192, ""), 20), "A 201/501+100, A 301/501+100")
	if !a.timed || a.timedSeq != 301 {
		t.Error("what is sent again is timed:", a.timed, a.timedSeq)
	}
	is(t, "and on", a.Arrive(seg(api.Ack, 501, 401, 8192, ""), 21), "A 401/501+100, PA 501/501+100")
	is(t, "all", a.Arrive(seg(api.Ack, 501, 601, 8192, ""), 21), "")
	due(t, a, -1)
}

func TestP17_6AShutWindow(t *testing.T) {
	a, _ := joined(t, configA(), configB())
	a.Arrive(seg(api.Ack, 501, 101, 0, ""), 0)
	is(t, "Send", send(t, a, "ab", 0), "")
	due(t, a, 10)
	is(t, "Shut", shut(a, 1), "")
	is(t, "one byte", a.Tick(10), "A 101/501+1")
	due(t, a, 30)
	is(t, "the same byte", a.Tick(30), "A 101/501+1")
	if a.tries != 2 {
		t.Error(a.tries)
	}
	is(t, "not taken", a.Arrive(seg(api.Ack, 501, 101, 0, ""), 31), "")
	if a.tries != 0 {
		t.Error("a peer that says 0 is there:", a.tries)
	}
	is(t, "taken", a.Arrive(seg(api.Ack, 501, 102, 0, ""), 40), "")
	due(t, a, 40+a.clock.Wait())
	is(t, "the last byte", a.Tick(60), "PA 102/501+1")
	a.Arrive(seg(api.Ack, 501, 103, 0, ""), 61)
	at, _ := a.Due()
	is(t, "the FIN", a.Tick(at), "FA 103/501")
	is(t, "done", a.Arrive(seg(api.Ack, 501, 104, 0, ""), 100), "")
	state(t, a, api.FinWait2, api.OK)
}

func TestP17_6AckThenMore(t *testing.T) {
	a, _ := joined(t, configA(), configB())
	send(t, a, "x", 0)
	a.Arrive(seg(api.Ack, 501, 101, 100, "y"), 6)
	is(t, "both", a.Tick(10), "A 102/502, PA 101/502+1")
}

func TestP17_6Keep(t *testing.T) {
	c := configA()
	c.Keep = 50
	a, _ := joined(t, c, configB())
	due(t, a, 50)
	is(t, "asked", a.Tick(50), "A 100/501")
	is(t, "answered", a.Arrive(seg(api.Ack, 501, 101, 100, ""), 60), "")
	due(t, a, 110)
	now := 110
	b := *a
	b.Tick(110)
	due(t, &b, 160)
	for range 8 {
		is(t, "asked", a.Tick(now), "A 100/501")
		now += 50
	}
	is(t, "not once more", a.Tick(now), "")
	state(t, a, api.Closed, api.ErrTimeout)

	a, _ = joined(t, c, configB())
	a.Arrive(seg(api.Ack|api.Fin, 501, 101, 100, ""), 5)
	is(t, "in CloseWait", a.Tick(55), "A 100/502")
	shut(a, 60)
	is(t, "not in LastAck", a.Tick(61), "")
}

func TestP17_7Send(t *testing.T) {
	c := configA()
	c.SendRoom = 10
	a, _ := joined(t, c, configB())
	a.Arrive(seg(api.Ack, 501, 101, 0, ""), 0)
	if n, l, err := a.Send([]byte("0123456"), 1); n != 7 || len(l) != 0 || err != api.OK {
		t.Error(n, err)
	}
	if n, _, err := a.Send([]byte("789ab"), 1); n != 3 || err != api.OK {
		t.Error(n, err)
	}
	if n, l, err := a.Send([]byte("x"), 1); n != 0 || len(l) != 0 || err != api.ErrAgain {
		t.Error(n, err)
	}
	if n, _, err := a.Send(nil, 1); n != 0 || err != api.OK {
		t.Error(n, err)
	}
	shut(a, 1)
	if n, l, err := a.Send(nil, 1); n != 0 || len(l) != 0 || err != api.ErrPipe {
		t.Error(n, err)
	}
	a.Arrive(seg(api.Rst, 501, 0, 0, ""), 2)
	if n, l, err := a.Send(nil, 3); n != 0 || len(l) != 0 || err != api.ErrReset {
		t.Error(n, err)
	}
	if _, _, err := a.Send(nil, 3); err != api.ErrPipe {
		t.Error(err)
	}
}

func TestP17_7WhatItCan(t *testing.T) {
	c := configA()
	a, _ := joined(t, c, configB())
	a.mss = 10
	is(t, "one byte", send(t, a, "a", 1), "PA 101/501+1")
	is(t, "another one waits", send(t, a, "b", 1), "")
	a, _ = joined(t, c, configB())
	a.Arrive(seg(api.Ack, 501, 101, 1, ""), 1)
	is(t, "one byte", send(t, a, "a", 1), "PA 101/501+1")
	is(t, "three of seven wait", send(t, a, "bcdefgh", 1), "")
	a, _ = joined(t, c, configB())
	a.Arrive(seg(api.Ack, 501, 101, 0, ""), 1)
	is(t, "a shut window", send(t, a, "a", 1), "")
	due(t, a, 11)
	a, _ = joined(t, c, configB())
	a.mss = 10
	is(t, "the first", send(t, a, "abc", 1), "PA 101/501+3")
	is(t, "a small one waits", send(t, a, "def", 1), "")
	is(t, "till it is a whole one", send(t, a, "ghijklmnop", 1), "A 104/501+10")
	is(t, "or all is taken", a.Arrive(seg(api.Ack, 501, 114, 3, ""), 2), "PA 114/501+3")
	a.Arrive(seg(api.Ack, 501, 117, 3, ""), 2)
	is(t, "a window of twelve", send(t, a, strings.Repeat("q", 30), 2), "A 117/501+10")
	is(t, "no small piece of more", a.Arrive(seg(api.Ack, 501, 117, 3, ""), 3), "")
	is(t, "two more fit", a.Arrive(seg(api.Ack, 501, 127, 3, ""), 3), "A 127/501+10")
	c.NoDelay = true
	a, _ = joined(t, c, configB())
	is(t, "the first", send(t, a, "abc", 1), "PA 101/501+3")
	is(t, "no waiting", send(t, a, "def", 1), "PA 104/501+3")
	a, _ = joined(t, configA(), configB())
	send(t, a, "abc", 1)
	send(t, a, "def", 1)
	is(t, "the FIN goes with what waits", shut(a, 1), "FPA 104/501+3")
	a, _ = joined(t, configA(), configB())
	a.Arrive(seg(api.Ack, 501, 101, 1, ""), 1)
	is(t, "a part of a window", send(t, a, "abcdefgh", 1), "A 101/501+4")
	is(t, "the FIN does not fit", shut(a, 1), "")
	is(t, "nor does it here", a.Arrive(seg(api.Ack, 501, 105, 1, ""), 2), "PA 105/501+4")
	is(t, "here", a.Arrive(seg(api.Ack, 501, 109, 1, ""), 3), "FA 109/501")
}

func TestP17_8Recv(t *testing.T) {
	a, _ := joined(t, configA(), configB())
	for _, n := range []int{0, -1, math.MinInt} {
		if _, _, err := a.Recv(n, 0); err != api.ErrArg {
			t.Error(n, err)
		}
	}
	if _, _, err := a.Recv(1, 0); err != api.ErrAgain {
		t.Error(err)
	}
	a.mss = 100
	a.Arrive(seg(api.Ack, 501, 101, 9, strings.Repeat("x", 300)), 0)
	is(t, "ack", a.Tick(4), "A 101/801")
	if b, l, err := a.Recv(99, 5); len(b) != 99 || len(l) != 0 || err != api.OK {
		t.Error(len(b), show(l), err)
	}
	if b, l, err := a.Recv(5, 5); len(b) != 5 || show(l) != "A 101/801" || err != api.OK {
		t.Error(len(b), show(l), err)
	}
	if b, l, _ := a.Recv(95, 5); len(b) != 95 || len(l) != 0 {
		t.Error("told again too early:", show(l))
	}
	a.Arrive(seg(api.Rst, 801, 0, 0, ""), 6)
	if b, l, err := a.Recv(math.MaxInt, 6); len(b) != 101 || len(l) != 0 || err != api.OK {
		t.Error("what came before the end is lost:", len(b), err)
	}
	if _, _, err := a.Recv(1, 6); err != api.ErrReset {
		t.Error(err)
	}
	if _, _, err := a.Recv(1, 6); err != api.ErrNotConn {
		t.Error(err)
	}
}

func TestP17_8Grown(t *testing.T) {
	for _, want := range []int{api.Established, api.FinWait1, api.FinWait2, api.CloseWait, api.LastAck} {
		a, _ := joined(t, configA(), configB())
		a.mss = 100
		a.Arrive(seg(api.Ack, 501, 101, 9, strings.Repeat("x", 300)), 0)
		a.Tick(4)
		switch want {
		case api.FinWait1:
			shut(a, 5)
		case api.FinWait2:
			shut(a, 5)
			a.Arrive(seg(api.Ack, 801, 102, 9, ""), 5)
		case api.CloseWait:
			a.Arrive(seg(api.Fin|api.Ack, 801, 101, 9, ""), 5)
		case api.LastAck:
			a.Arrive(seg(api.Fin|api.Ack, 801, 101, 9, ""), 5)
			shut(a, 5)
		}
		state(t, a, want, api.OK)
		_, l, _ := a.Recv(300, 6)
		if tells := want == api.Established || want == api.FinWait1 || want == api.FinWait2; (len(l) == 1) != tells {
			t.Error(want, show(l))
		}
	}
}

func TestP17_10Due(t *testing.T) {
	c := configA()
	c.NoDelay = true
	a, _ := joined(t, c, configB())
	send(t, a, "x", 1)
	due(t, a, 11)
	send(t, a, "y", 5)
	due(t, a, 11)
	a.Arrive(seg(api.Ack, 501, 101, 9, "y"), 6)
	due(t, a, 10)
	a.Tick(10)
	due(t, a, 11)
	a.Arrive(seg(api.Ack, 502, 101, 9, "y"), 10)
	due(t, a, 11)
}

func TestP17_8AtLeastOne(t *testing.T) {
	c := configA()
	c.RecvRoom, c.Scale = 1, -1
	a, _ := joined(t, c, configB())
	a.Arrive(seg(api.Ack, 501, 101, 9, "x"), 0)
	is(t, "ack", a.Tick(4), "A 101/502")
	if _, l, _ := a.Recv(1, 5); show(l) != "A 101/502" || l[0].Window != 1 {
		t.Error(show(l))
	}
}

func TestP17_9ShutAndAbort(t *testing.T) {
	a := made(t, configA())
	if l, err := a.Shut(0); err != api.OK || len(l) != 0 {
		t.Error(err)
	}
	if _, err := a.Shut(0); err != api.ErrNotConn {
		t.Error(err)
	}
	if _, err := a.Connect(0); err != api.ErrIsConn {
		t.Error(err)
	}
	if _, _, err := a.Send(nil, 0); err != api.ErrPipe {
		t.Error(err)
	}
	a = made(t, configA())
	connect(a, 0)
	if l, err := a.Shut(1); err != api.OK || len(l) != 0 {
		t.Error(err)
	}
	state(t, a, api.Closed, api.OK)
	due(t, a, -1)
	a, _ = joined(t, configA(), configB())
	shut(a, 1)
	if l, err := a.Shut(1); err != api.ErrNotConn || len(l) != 0 {
		t.Error(err)
	}

	a = made(t, configA())
	is(t, "a new one", a.Abort(), "")
	if _, err := a.Connect(0); err != api.ErrIsConn {
		t.Error(err)
	}
	a = made(t, configA())
	connect(a, 0)
	is(t, "in SynSent", a.Abort(), "")
	state(t, a, api.Closed, api.OK)
	b := made(t, configB())
	b.Accept(seg(api.Syn, 9, 0, 700, ""), 0)
	is(t, "in SynReceived", b.Abort(), "RA 501/10")
	a, _ = joined(t, configA(), configB())
	send(t, a, "xx", 0)
	is(t, "in Established", a.Abort(), "RA 103/501")
	state(t, a, api.Closed, api.OK)
	due(t, a, -1)
	is(t, "in Closed", a.Abort(), "")
	a, _ = joined(t, configA(), configB())
	shut(a, 0)
	is(t, "in FinWait1", a.Abort(), "RA 102/501")
	a, _ = joined(t, configA(), configB())
	shut(a, 0)
	a.Arrive(seg(api.Ack, 501, 102, 9, ""), 0)
	is(t, "in FinWait2", a.Abort(), "RA 102/501")
	a, _ = joined(t, configA(), configB())
	a.Arrive(seg(api.Fin|api.Ack, 501, 101, 9, ""), 0)
	is(t, "in CloseWait", a.Abort(), "RA 101/502")
	a, _ = joined(t, configA(), configB())
	a.Arrive(seg(api.Fin|api.Ack, 501, 101, 9, ""), 0)
	shut(a, 0)
	is(t, "in LastAck", a.Abort(), "")
	a, _ = joined(t, configA(), configB())
	shut(a, 0)
	a.Arrive(seg(api.Fin|api.Ack, 501, 101, 9, ""), 0)
	is(t, "in Closing", a.Abort(), "")
}

func TestP17_10Room(t *testing.T) {
	a := made(t, configA())
	if s, r, e := a.Room(); s != 0 || r != 0 || e {
		t.Error(s, r, e)
	}
	a, _ = joined(t, configA(), configB())
	send(t, a, "xxx", 0)
	a.Arrive(seg(api.Ack, 501, 101, 9, "yy"), 0)
	if s, r, e := a.Room(); s != 8189 || r != 2 || e {
		t.Error(s, r, e)
	}
	a.Arrive(seg(api.Fin|api.Ack, 503, 101, 9, ""), 0)
	if s, r, e := a.Room(); s != 8189 || r != 2 || !e {
		t.Error(s, r, e)
	}
	shut(a, 0)
	if s, r, e := a.Room(); s != 0 || r != 2 || !e {
		t.Error(s, r, e)
	}
}

func TestP17_11NilAndZero(t *testing.T) {
	var none *Conn
	for _, c := range []*Conn{none, {}} {
		if l, err := c.Connect(0); err != api.ErrArg || len(l) != 0 {
			t.Error(err)
		}
		if l, err := c.Accept(seg(api.Syn, 1, 0, 1, ""), 0); err != api.ErrArg || len(l) != 0 {
			t.Error(err)
		}
		if n, l, err := c.Send([]byte("x"), 0); n != 0 || err != api.ErrArg || len(l) != 0 {
			t.Error(err)
		}
		if b, l, err := c.Recv(1, 0); len(b) != 0 || err != api.ErrArg || len(l) != 0 {
			t.Error(err)
		}
		if l, err := c.Shut(0); err != api.ErrArg || len(l) != 0 {
			t.Error(err)
		}
		if s, err := c.State(); s != 0 || err != api.ErrArg {
			t.Error(err)
		}
		if s, r, e := c.Room(); s != 0 || r != 0 || e {
			t.Error(s, r, e)
		}
		if len(c.Arrive(seg(api.Syn, 1, 0, 1, ""), 0)) != 0 || len(c.Abort()) != 0 || len(c.Tick(5)) != 0 {
			t.Error("something is sent")
		}
		if at, ok := c.Due(); at != 0 || ok {
			t.Error(at, ok)
		}
	}
}

func TestP17_11Memory(t *testing.T) {
	a, _ := joined(t, configA(), configB())
	p := []byte("abc")
	_, l, _ := a.Send(p, 0)
	p[0] = 'x'
	l[0].Data[1] = 'y'
	if again := a.Tick(99); string(again[0].Data) != "abc" {
		t.Errorf("%q", again[0].Data)
	}
	s := seg(api.Ack, 501, 101, 9, "def")
	a.Arrive(s, 100)
	s.Data[0] = 'z'
	if b, _, _ := a.Recv(9, 100); string(b) != "def" {
		t.Errorf("%q", b)
	}
}

// wireOf two connections loses, repeats and turns round what is sent.
type wireOf struct {
	x    uint32
	l    []api.Segment
	lose int // of a hundred
}

func (w *wireOf) draw(n int) int {
	w.x = w.x*1664525 + 1013904223
	return int(w.x>>8) % n
}

func (w *wireOf) add(l []api.Segment) {
	for _, s := range l {
		if w.draw(100) < w.lose {
			continue
		}
		w.l = append(w.l, s)
		if w.draw(100) < w.lose/2 {
			w.l = append(w.l, s)
		}
	}
}

func TestP17_12TheStream(t *testing.T) {
	for seed := range uint32(60) {
		w := &wireOf{x: seed, lose: int(seed % 4 * 8)}
		ca, cb := configA(), configB()
		ca.MSS, cb.MSS = 64+w.draw(300), 64+w.draw(300)
		ca.RecvRoom, cb.RecvRoom = 1+w.draw(3000), 1+w.draw(3000)
		ca.SendRoom, cb.SendRoom = 1+w.draw(3000), 1+w.draw(3000)
		ca.Scale, ca.NoDelay = w.draw(4)-1, w.draw(2) == 0
		ca.ISS, cb.ISS = 0xffffff00, 0x7fffff80
		ends := [2]*Conn{made(t, ca), made(t, cb)}
		var sent, got [2][]byte
		var done, shutAt [2]bool
		// If much is under way both ways and all acknowledgements of it are lost, both sides go back, and neither takes the other's segments any more: with losses, one side says little.
		total := [2]int{4000, 4000}
		if w.lose > 0 {
			total[1] = 40
		}
		l, _ := ends[0].Connect(0)
		for len(w.l) == 0 {
			w.add(l)
		}
		l, _ = ends[1].Accept(w.l[0], 0)
		w.l = nil
		w.add(l)
		for now := 1; now < 60000 && !(done[0] && done[1]); now++ {
			for i, c := range ends {
				want := total[i] - len(sent[i])
				if want > 0 {
					p := make([]byte, min(want, 1+w.draw(700)))
					for k := range p {
						p[k] = byte(w.draw(256))
					}
					n, l, _ := c.Send(p, now)
					sent[i] = append(sent[i], p[:n]...)
					w.add(l)
				} else if st, _ := c.State(); !shutAt[i] && st != api.SynReceived {
					l, _ := c.Shut(now)
					shutAt[i] = true
					w.add(l)
				}
				b, l, err := c.Recv(1+w.draw(900), now)
				got[i] = append(got[i], b...)
				done[i] = done[i] || err == api.OK && len(b) == 0
				w.add(l)
				w.add(c.Tick(now))
			}
			for range w.draw(12) {
				if len(w.l) > 0 {
					i := 0
					if w.lose > 0 {
						i = w.draw(min(len(w.l), 5))
					}
					s := w.l[i]
					w.l = append(w.l[:i:i], w.l[i+1:]...)
					to := 0
					if s.To == addrB {
						to = 1
					}
					w.add(ends[to].Arrive(s, now))
				}
			}
			for i := range got {
				if !bytes.HasPrefix(sent[1-i], got[i]) {
					t.Fatal(seed, "not the beginning of what was sent")
				}
			}
		}
		if len(got[0]) != total[1] || len(got[1]) != total[0] || !done[0] || !done[1] {
			t.Fatal(seed, len(got[0]), len(got[1]), done)
		}
		if a := ends[0].ahead; a.Held() != 0 {
			t.Error(a.Held())
		}
	}
}
