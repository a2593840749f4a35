package hub

import (
	"strconv"
	"strings"
	"testing"

	"wharf/api"
)

const (
	me   = api.Addr(0x0a000001)
	peer = api.Addr(0x0a000002)
)

func base() api.Config {
	return api.Config{ISS: 500, MSS: 1460, SendRoom: 8192, RecvRoom: 8192, Scale: 2}
}

func config(localPort, peerPort int) api.Config {
	c := base()
	c.Local, c.LocalPort, c.Peer, c.PeerPort, c.ISS = me, localPort, peer, peerPort, 100
	return c
}

// show is segments as text: flags, Seq, Ack, how many bytes.
func show(l []api.Segment) string {
	var out []string
	for _, s := range l {
		x := ""
		for i, c := range "FSRPAU" {
			if s.Flags>>i&1 != 0 {
				x += string(c)
			}
		}
		x += " " + strconv.Itoa(int(s.Seq))
		if s.Flags&api.Ack != 0 {
			x += "/" + strconv.Itoa(int(s.Ack))
		}
		if len(s.Data) > 0 {
			x += "+" + strconv.Itoa(len(s.Data))
		}
		out = append(out, x)
	}
	return strings.Join(out, ", ")
}

func is(t *testing.T, what string, l []api.Segment, want string) {
	t.Helper()
	if got := show(l); got != want {
		t.Errorf("%s: %q, want %q", what, got, want)
	}
}

// seg is a segment to a port of ours.
func seg(flags, from, to int, at, ack uint32, data string) api.Segment {
	return api.Segment{From: peer, FromPort: from, To: me, ToPort: to, Flags: flags, Seq: at, Ack: ack, Window: 1000, Scale: -1, Data: []byte(data)}
}

func count(t *testing.T, h *Hub, conns, listeners int) {
	t.Helper()
	if c, l := h.Count(); c != conns || l != listeners {
		t.Errorf("%d connections, %d listeners; want %d, %d", c, l, conns, listeners)
	}
}

func listen(t *testing.T, h *Hub, a api.Addr, port, backlog int) int {
	t.Helper()
	id, err := h.Listen(a, port, backlog)
	if err != api.OK || id < 1 {
		t.Fatal(id, err)
	}
	return id
}

// shake has a connection of a port to port 80 established.
func shake(t *testing.T, h *Hub, from int) {
	t.Helper()
	is(t, "SYN", h.Arrive(seg(api.Syn, from, 80, 9, 0, ""), base(), 0), "SA 500/10")
	is(t, "Ack", h.Arrive(seg(api.Ack, from, 80, 10, 501, ""), base(), 0), "")
}

func TestP18_1Listen(t *testing.T) {
	var h Hub
	for _, c := range [][2]int{{0, 1}, {-1, 1}, {65536, 1}, {80, 0}, {80, -1}, {80, 33}} {
		if id, err := h.Listen(me, c[0], c[1]); id != 0 || err != api.ErrArg {
			t.Error(c, id, err)
		}
	}
	for i, port := range []int{1, 65535} {
		var h Hub
		if id, err := h.Listen(me, port, 1); id != 1 || err != api.OK {
			t.Error(i, id, err)
		}
	}
	if id := listen(t, &h, me, 80, 32); id != 1 {
		t.Error(id)
	}
	if id := listen(t, &h, peer, 80, 1); id != 2 {
		t.Error(id)
	}
	listen(t, &h, api.Any, 81, 1)
	for _, c := range []struct {
		a    api.Addr
		port int
	}{{me, 80}, {api.Any, 80}, {me, 81}, {api.Any, 81}} {
		if id, err := h.Listen(c.a, c.port, 1); id != 0 || err != api.ErrInUse {
			t.Error(c, id, err)
		}
	}
	for i := range 13 {
		listen(t, &h, me, 1000+i, 1)
	}
	count(t, &h, 0, 16)
	if _, err := h.Listen(me, 80, 1); err != api.ErrInUse {
		t.Error(err)
	}
	if id, err := h.Listen(me, 82, 1); id != 0 || err != api.ErrFull {
		t.Error(id, err)
	}
	if l, err := h.Deaf(2); len(l) != 0 || err != api.OK {
		t.Error(err)
	}
	if id := listen(t, &h, me, 82, 1); id != 17 {
		t.Error("a number is used twice:", id)
	}
}

func TestP18_1Deaf(t *testing.T) {
	var h Hub
	listen(t, &h, api.Any, 80, 5)
	shake(t, &h, 1001)
	h.Arrive(seg(api.Syn, 1002, 80, 9, 0, ""), base(), 0)
	shake(t, &h, 1003)
	if id, err := h.Accept(1); id != 2 || err != api.OK {
		t.Error(id, err)
	}
	if _, err := h.Deaf(2); err != api.ErrNone {
		t.Error(err)
	}
	count(t, &h, 3, 1)
	l, err := h.Deaf(1)
	is(t, "Deaf", l, "RA 501/10, RA 501/10")
	if err != api.OK || l[0].ToPort != 1002 || l[1].ToPort != 1003 {
		t.Error(l, err)
	}
	count(t, &h, 1, 0)
	if _, err := h.Deaf(1); err != api.ErrNone {
		t.Error(err)
	}
	if s, err := h.State(2); s != api.Established || err != api.OK {
		t.Error("the accepted one:", s, err)
	}
	if h.Waits(1) != 0 {
		t.Error(h.Waits(1))
	}
}

func TestP18_2Open(t *testing.T) {
	var h Hub
	bad := config(0, 80)
	if id, l, err := h.Open(bad, 0); id != 0 || len(l) != 0 || err != api.ErrArg {
		t.Error(id, err)
	}
	id, l, err := h.Open(config(1000, 80), 0)
	is(t, "Open", l, "S 100")
	if id != 1 || err != api.OK {
		t.Error(id, err)
	}
	if id, l, err := h.Open(config(1000, 80), 0); id != 0 || len(l) != 0 || err != api.ErrInUse {
		t.Error(id, err)
	}
	if s, err := h.State(1); s != api.SynSent || err != api.OK {
		t.Error(s, err)
	}
	is(t, "refused", h.Arrive(seg(api.Rst|api.Ack, 80, 1000, 0, 101, ""), base(), 1), "")
	if s, err := h.State(1); s != api.Closed || err != api.ErrRefused {
		t.Error(s, err)
	}
	count(t, &h, 1, 0)
	if id, _, err := h.Open(config(1000, 80), 0); id != 2 || err != api.OK {
		t.Error("a Closed one stands in the way:", id, err)
	}
	if l, err := h.Drop(1, 2); len(l) != 0 || err != api.OK {
		t.Error(err)
	}
	count(t, &h, 1, 0)
	is(t, "the second one is there yet", h.Arrive(seg(api.Syn|api.Ack, 80, 1000, 7, 101, ""), base(), 1), "A 101/8")
	for i := range api.MaxConns - 1 {
		if _, _, err := h.Open(config(2000+i, 80), 0); err != api.OK {
			t.Fatal(i, err)
		}
	}
	if _, _, err := h.Open(config(1000, 80), 0); err != api.ErrInUse {
		t.Error(err)
	}
	if _, _, err := h.Open(bad, 0); err != api.ErrArg {
		t.Error(err)
	}
	if id, l, err := h.Open(config(999, 80), 0); id != 0 || len(l) != 0 || err != api.ErrFull {
		t.Error(id, err)
	}
	count(t, &h, api.MaxConns, 0)
}

func TestP18_3Nobody(t *testing.T) {
	var h Hub
	listen(t, &h, me, 80, 1)
	is(t, "no listener", h.Arrive(seg(api.Syn, 1001, 81, 9, 0, ""), base(), 0), "RA 0/10")
	is(t, "no listener", h.Arrive(seg(api.Ack, 1001, 81, 9, 77, ""), base(), 0), "R 77")
	is(t, "a reset", h.Arrive(seg(api.Rst, 1001, 81, 9, 77, ""), base(), 0), "")
	is(t, "a reset to a listener", h.Arrive(seg(api.Rst, 1001, 80, 9, 77, ""), base(), 0), "")
	is(t, "an Ack to a listener", h.Arrive(seg(api.Ack|api.Syn, 1001, 80, 9, 77, ""), base(), 0), "R 77")
	is(t, "SYN and FIN", h.Arrive(seg(api.Fin|api.Syn, 1001, 80, 9, 77, ""), base(), 0), "")
	is(t, "nothing", h.Arrive(seg(0, 1001, 80, 9, 77, "x"), base(), 0), "")
	is(t, "an invalid one", h.Arrive(seg(64|api.Syn, 1001, 81, 9, 0, ""), base(), 0), "")
	is(t, "from port 0", h.Arrive(seg(api.Syn, 0, 80, 9, 0, ""), base(), 0), "")
	wrong := base()
	wrong.MSS = 0
	is(t, "a base that is none", h.Arrive(seg(api.Syn, 1001, 80, 9, 0, ""), wrong, 0), "")
	other := seg(api.Syn, 1001, 80, 9, 0, "")
	other.To = 99
	is(t, "another address", h.Arrive(other, base(), 0), "RA 0/10")
	count(t, &h, 0, 1)
}

func TestP18_3Pending(t *testing.T) {
	var h Hub
	listen(t, &h, api.Any, 80, 1)
	l := h.Arrive(seg(api.Syn, 1001, 80, 9, 0, ""), base(), 0)
	is(t, "SYN", l, "SA 500/10")
	if l[0].From != me || l[0].FromPort != 80 || l[0].To != peer || l[0].ToPort != 1001 {
		t.Error(l[0])
	}
	is(t, "too many", h.Arrive(seg(api.Syn, 1002, 80, 9, 0, ""), base(), 0), "")
	is(t, "another port", h.Arrive(seg(api.Syn, 1001, 81, 9, 0, ""), base(), 0), "RA 0/10")
	count(t, &h, 1, 1)
	if s, err := h.State(2); s != 0 || err != api.ErrNone {
		t.Error("a pending one is held:", s, err)
	}
	if id, err := h.Accept(1); id != 0 || err != api.ErrAgain || h.Waits(1) != 0 {
		t.Error(id, err)
	}
	h.Arrive(seg(api.Ack, 1001, 80, 10, 501, ""), base(), 0)
	if h.Waits(1) != 1 {
		t.Error(h.Waits(1))
	}
	is(t, "too many yet", h.Arrive(seg(api.Syn, 1002, 80, 9, 0, ""), base(), 0), "")
	if id, err := h.Accept(1); id != 2 || err != api.OK || h.Waits(1) != 0 {
		t.Error(id, err)
	}
	if id, err := h.Accept(1); id != 0 || err != api.ErrAgain {
		t.Error(id, err)
	}
	if f, err := h.Peer(2); err != api.OK || f != (api.Flow{Proto: api.ProtoTCP, From: me, FromPort: 80, To: peer, ToPort: 1001}) {
		t.Error(f, err)
	}
	is(t, "room again", h.Arrive(seg(api.Syn, 1002, 80, 9, 0, ""), base(), 0), "SA 500/10")
	is(t, "reset", h.Arrive(seg(api.Rst, 1002, 80, 10, 0, ""), base(), 0), "")
	count(t, &h, 1, 1)
	shake(t, &h, 1003)
	is(t, "reset", h.Arrive(seg(api.Rst, 1003, 80, 10, 0, ""), base(), 0), "")
	count(t, &h, 1, 1)
	if id, err := h.Accept(1); id != 0 || err != api.ErrAgain {
		t.Error("one that was reset is accepted:", id, err)
	}
}

func TestP18_3Listeners(t *testing.T) {
	var h Hub
	own := listen(t, &h, me, 80, 5)
	two := listen(t, &h, peer, 80, 5)
	s := seg(api.Syn, 1001, 80, 9, 0, "")
	h.Arrive(s, base(), 0)
	s.To = peer
	s.FromPort = 1002
	h.Arrive(s, base(), 0)
	s.Flags, s.Seq, s.Ack = api.Ack, 10, 501
	h.Arrive(s, base(), 0)
	if h.Waits(own) != 0 || h.Waits(two) != 1 {
		t.Error("the wrong listener")
	}
}

func TestP18_3Full(t *testing.T) {
	var h Hub
	for i := range api.MaxConns {
		h.Open(config(2000+i, 80), 0)
	}
	listen(t, &h, me, 80, 5)
	is(t, "full", h.Arrive(seg(api.Syn, 1001, 80, 9, 0, ""), base(), 0), "")
	count(t, &h, api.MaxConns, 1)
}

func TestP18_4AcceptInOrder(t *testing.T) {
	var h Hub
	listen(t, &h, me, 80, 5)
	for _, from := range []int{1001, 1002, 1003} {
		h.Arrive(seg(api.Syn, from, 80, 9, 0, ""), base(), 0)
	}
	for _, from := range []int{1003, 1001, 1002} {
		h.Arrive(seg(api.Ack, from, 80, 10, 501, ""), base(), 0)
		h.Arrive(seg(api.Ack, from, 80, 10, 501, "x"), base(), 0)
	}
	if h.Waits(1) != 3 || h.Waits(2) != 0 || h.Waits(99) != 0 {
		t.Error(h.Waits(1))
	}
	for _, want := range []int{4, 2, 3} {
		if id, err := h.Accept(1); id != want || err != api.OK {
			t.Error(id, err)
		}
	}
	if id, err := h.Accept(2); id != 0 || err != api.ErrNone {
		t.Error(id, err)
	}
	if id, err := h.Accept(-1); id != 0 || err != api.ErrNone {
		t.Error(id, err)
	}
}

// established is a Hub with an accepted connection of number 2.
func established(t *testing.T) *Hub {
	t.Helper()
	h := &Hub{}
	listen(t, h, me, 80, 5)
	shake(t, h, 1001)
	if id, err := h.Accept(1); id != 2 || err != api.OK {
		t.Fatal(id, err)
	}
	return h
}

func TestP18_5Calls(t *testing.T) {
	h := established(t)
	shake(t, h, 1002)
	for _, id := range []int{0, 1, 3, 99, -1} {
		if n, l, err := h.Send(id, []byte("x"), 0); n != 0 || len(l) != 0 || err != api.ErrNone {
			t.Error(id, err)
		}
		if b, l, err := h.Recv(id, 1, 0); len(b) != 0 || len(l) != 0 || err != api.ErrNone {
			t.Error(id, err)
		}
		if l, err := h.Shut(id, 0); len(l) != 0 || err != api.ErrNone {
			t.Error(id, err)
		}
		if l, err := h.Drop(id, 0); len(l) != 0 || err != api.ErrNone {
			t.Error(id, err)
		}
		if s, err := h.State(id); s != 0 || err != api.ErrNone {
			t.Error(id, err)
		}
		if s, r, e := h.Room(id); s != 0 || r != 0 || e {
			t.Error(id, s, r, e)
		}
		if f, err := h.Peer(id); f != (api.Flow{}) || err != api.ErrNone {
			t.Error(id, err)
		}
	}
	n, l, err := h.Send(2, []byte("abc"), 0)
	is(t, "Send", l, "PA 501/10+3")
	if n != 3 || err != api.OK {
		t.Error(n, err)
	}
	if _, _, err := h.Recv(2, 1, 0); err != api.ErrAgain {
		t.Error(err)
	}
	h.Arrive(seg(api.Ack, 1001, 80, 10, 504, "hello"), base(), 0)
	if s, r, e := h.Room(2); s != 8192 || r != 5 || e {
		t.Error(s, r, e)
	}
	if b, _, err := h.Recv(2, 3, 0); string(b) != "hel" || err != api.OK {
		t.Errorf("%q, %v", b, err)
	}
	l, err = h.Shut(2, 0)
	is(t, "Shut", l, "FA 504/15")
	if err != api.OK {
		t.Error(err)
	}
	if _, err := h.Shut(2, 0); err != api.ErrNotConn {
		t.Error(err)
	}
}

func TestP18_5Drop(t *testing.T) {
	h := established(t)
	h.Arrive(seg(api.Ack, 1001, 80, 10, 501, "hello"), base(), 0)
	l, err := h.Drop(2, 0)
	is(t, "with bytes", l, "RA 501/15")
	if err != api.OK {
		t.Error(err)
	}
	count(t, h, 0, 1)

	h = established(t)
	h.Arrive(seg(api.Ack, 1001, 80, 10, 501, "h"), base(), 0)
	l, _ = h.Drop(2, 0)
	is(t, "with one byte", l, "RA 501/11")

	h = established(t)
	l, _ = h.Drop(2, 0)
	is(t, "without bytes", l, "FA 501/10")
	if _, err := h.Drop(2, 0); err != api.ErrNone {
		t.Error("a left one is held:", err)
	}
	count(t, h, 1, 1)
	is(t, "it goes on", h.Arrive(seg(api.Ack|api.Fin, 1001, 80, 10, 502, ""), base(), 5), "A 502/11")
	count(t, h, 1, 1)
	is(t, "rest", h.Tick(124), "")
	count(t, h, 1, 1)
	is(t, "rest", h.Tick(125), "")
	count(t, h, 0, 1)

	h = established(t)
	h.Shut(2, 0)
	l, err = h.Drop(2, 0)
	is(t, "shut already", l, "")
	if err != api.OK {
		t.Error(err)
	}
	count(t, h, 1, 1)

	h = established(t)
	h.Arrive(seg(api.Rst, 1001, 80, 10, 0, ""), base(), 0)
	if s, err := h.State(2); s != api.Closed || err != api.ErrReset {
		t.Error(s, err)
	}
	count(t, h, 1, 1)
	l, err = h.Drop(2, 0)
	is(t, "Closed", l, "")
	if err != api.OK {
		t.Error(err)
	}
	count(t, h, 0, 1)

	h = &Hub{}
	h.Open(config(1000, 80), 0)
	l, _ = h.Drop(1, 0)
	is(t, "in SynSent", l, "")
	count(t, h, 0, 0)
}

func TestP18_6Tick(t *testing.T) {
	var h Hub
	for _, port := range []int{1003, 1001, 1002} {
		h.Open(config(port, 80), 0)
	}
	for i := range 12 {
		h.Open(config(3000+i, 80), 1)
	}
	l := h.Tick(30)
	is(t, "Tick", l, "S 100, S 100, S 100")
	for i, port := range []int{1003, 1001, 1002} {
		if l[i].FromPort != port {
			t.Error(i, l[i].FromPort)
		}
	}
	l = h.Tick(31)
	for i := range 12 {
		if len(l) != 12 || l[i].FromPort != 3000+i {
			t.Fatal("not in the order of the numbers")
		}
	}
	listen(t, &h, me, 80, 5)
	h.Arrive(seg(api.Syn, 1001, 80, 9, 0, ""), base(), 31)
	conns, _ := h.Count()
	for now := 100; now < 9000; now += 100 {
		h.Tick(now)
	}
	count(t, &h, conns-1, 1)
	if s, err := h.State(1); s != api.Closed || err != api.ErrTimeout {
		t.Error(s, err)
	}
}

func TestP18_7Bounds(t *testing.T) {
	var h Hub
	x := uint32(1)
	draw := func(n int) int {
		x = x*1664525 + 1013904223
		return int(x>>8) % n
	}
	for now := range 4000 {
		switch draw(8) {
		case 0:
			h.Listen(me, 80+draw(20), 1+draw(40))
		case 1:
			h.Open(config(1+draw(100), 80), now)
		case 2:
			h.Deaf(draw(4000))
		case 3:
			h.Drop(draw(300), now)
		case 4:
			h.Accept(draw(300))
		case 5:
			h.Tick(now)
		default:
			h.Arrive(seg(draw(32), 1+draw(100), 80+draw(20), uint32(draw(600)), uint32(draw(600)), "xyz"[:draw(4)]), base(), now)
		}
		conns, listeners := h.Count()
		if conns > api.MaxConns || listeners > api.MaxListen || len(h.open) > conns {
			t.Fatal(conns, listeners)
		}
		for _, l := range h.listeners {
			if len(l.pending) > l.backlog || len(l.ready) > len(l.pending) {
				t.Fatal(len(l.pending), l.backlog)
			}
		}
	}
}

func TestP18_8NilAndMemory(t *testing.T) {
	var h *Hub
	if id, err := h.Listen(me, 80, 1); id != 0 || err != api.ErrArg {
		t.Error(err)
	}
	if l, err := h.Deaf(1); len(l) != 0 || err != api.ErrArg {
		t.Error(err)
	}
	if id, l, err := h.Open(config(1000, 80), 0); id != 0 || len(l) != 0 || err != api.ErrArg {
		t.Error(err)
	}
	if l := h.Arrive(seg(api.Syn, 1, 2, 3, 4, ""), base(), 0); len(l) != 0 {
		t.Error(l)
	}
	if id, err := h.Accept(1); id != 0 || err != api.ErrArg {
		t.Error(err)
	}
	if n, l, err := h.Send(1, nil, 0); n != 0 || len(l) != 0 || err != api.ErrArg {
		t.Error(err)
	}
	if b, l, err := h.Recv(1, 1, 0); len(b) != 0 || len(l) != 0 || err != api.ErrArg {
		t.Error(err)
	}
	if l, err := h.Shut(1, 0); len(l) != 0 || err != api.ErrArg {
		t.Error(err)
	}
	if l, err := h.Drop(1, 0); len(l) != 0 || err != api.ErrArg {
		t.Error(err)
	}
	if s, err := h.State(1); s != 0 || err != api.ErrArg {
		t.Error(err)
	}
	if s, r, e := h.Room(1); s != 0 || r != 0 || e || h.Waits(1) != 0 || len(h.Tick(5)) != 0 {
		t.Error("a nil Hub")
	}
	if f, err := h.Peer(1); f != (api.Flow{}) || err != api.ErrArg {
		t.Error(err)
	}
	count(t, h, 0, 0)

	g := established(t)
	p := []byte("abc")
	_, l, _ := g.Send(2, p, 0)
	p[0] = 'x'
	l[0].Data[0] = 'y'
	if again := g.Tick(50); string(again[0].Data) != "abc" {
		t.Errorf("%q", again[0].Data)
	}
}
