package sock

import (
	"bytes"
	"slices"
	"strconv"
	"strings"
	"testing"

	"wharf/api"
	"wharf/ether"
	"wharf/ipv4"
	"wharf/segment"
)

const (
	addr0 = api.Addr(0x0a000001)
	addr1 = api.Addr(0x0a000002)
	tcp   = api.ProtoTCP
	udp   = api.ProtoUDP
)

// net is two stacks and what is under way between them.
type net struct {
	t      *testing.T
	stacks [2]*Stack
	way    [2][][]byte // to each of them
	now    int
	draw   int
	got    []string // what has returned, as text
}

func fresh(t *testing.T) *net {
	t.Helper()
	n := &net{t: t}
	for i := range n.stacks {
		s, err := New(api.HostConfig{MAC: api.MAC{2, 0, 0, 0, 0, byte(i)}, Addr: addr0 + api.Addr(i), Bits: 24})
		if err != api.OK {
			t.Fatal(err)
		}
		n.stacks[i] = s
	}
	return n
}

// text is a Return as text.
func text(r api.Return) string {
	out := strconv.Itoa(r.Thread) + ":"
	if r.Err != api.OK {
		out += "!" + strconv.Itoa(int(r.Err))
	}
	if r.N != 0 {
		out += " n" + strconv.Itoa(r.N)
	}
	if r.Addr != 0 || r.Port != 0 {
		out += " @" + strconv.Itoa(int(r.Addr&255)) + ":" + strconv.Itoa(r.Port)
	}
	if len(r.Data) > 0 {
		out += " " + string(r.Data)
	}
	return out
}

func (n *net) take(i int, returns []api.Return, frames [][]byte) []string {
	var out []string
	for _, r := range returns {
		out = append(out, text(r))
	}
	n.way[1-i] = append(n.way[1-i], frames...)
	return out
}

// do does a call of a stack; what returns at once must be just this.
func (n *net) do(i int, c api.Call, want ...string) {
	n.t.Helper()
	c.Now, c.Draw = n.now, n.draw
	returns, frames := n.stacks[i].Do(c)
	if got := n.take(i, returns, frames); !slices.Equal(got, want) {
		n.t.Errorf("call %d: %q, want %q", c.Kind, got, want)
	}
}

// run delivers all frames, and lets some ticks pass; what returns of a stack meanwhile must be just this.
func (n *net) run(ticks, of int, want ...string) {
	n.t.Helper()
	var got []string
	keep := func(i int, l []string) {
		if i == of {
			got = append(got, l...)
		}
	}
	for k := 0; ; k++ {
		for len(n.way[0])+len(n.way[1]) > 0 {
			for i, s := range n.stacks {
				if len(n.way[i]) > 0 {
					f := n.way[i][0]
					n.way[i] = n.way[i][1:]
					returns, frames := s.Frame(f, n.now, n.draw)
					keep(i, n.take(i, returns, frames))
				}
			}
		}
		if k == ticks {
			break
		}
		n.now++
		for i, s := range n.stacks {
			returns, frames := s.Tick(n.now, n.draw)
			keep(i, n.take(i, returns, frames))
		}
	}
	if !slices.Equal(got, want) {
		n.t.Errorf("meanwhile: %q, want %q", got, want)
	}
}

// The calls, in short.
func newSocket(thread, proto int) api.Call {
	return api.Call{Kind: api.CallSocket, Thread: thread, N: proto}
}

func bind(thread, fd int, a api.Addr, port int) api.Call {
	return api.Call{Kind: api.CallBind, Thread: thread, Fd: fd, Addr: a, Port: port}
}

func listen(thread, fd, backlog int) api.Call {
	return api.Call{Kind: api.CallListen, Thread: thread, Fd: fd, N: backlog}
}

func accept(thread, fd int) api.Call { return api.Call{Kind: api.CallAccept, Thread: thread, Fd: fd} }

func connect(thread, fd int, a api.Addr, port int) api.Call {
	return api.Call{Kind: api.CallConnect, Thread: thread, Fd: fd, Addr: a, Port: port}
}

func send(thread, fd int, data string) api.Call {
	return api.Call{Kind: api.CallSend, Thread: thread, Fd: fd, Data: []byte(data)}
}

func recv(thread, fd, many int) api.Call {
	return api.Call{Kind: api.CallRecv, Thread: thread, Fd: fd, N: many}
}

func sendTo(thread, fd int, a api.Addr, port int, data string) api.Call {
	return api.Call{Kind: api.CallSendTo, Thread: thread, Fd: fd, Addr: a, Port: port, Data: []byte(data)}
}

func recvFrom(thread, fd, many int) api.Call {
	return api.Call{Kind: api.CallRecvFrom, Thread: thread, Fd: fd, N: many}
}

func shut(thread, fd int) api.Call   { return api.Call{Kind: api.CallShut, Thread: thread, Fd: fd} }
func closed(thread, fd int) api.Call { return api.Call{Kind: api.CallClose, Thread: thread, Fd: fd} }
func name(thread, fd int) api.Call   { return api.Call{Kind: api.CallName, Thread: thread, Fd: fd} }
func peer(thread, fd int) api.Call   { return api.Call{Kind: api.CallPeer, Thread: thread, Fd: fd} }

func option(thread, fd, which, value int) api.Call {
	return api.Call{Kind: api.CallOption, Thread: thread, Fd: fd, N: which, Port: value}
}

func poll(thread, fd, which int) api.Call {
	return api.Call{Kind: api.CallPoll, Thread: thread, Fd: fd, N: which}
}

func fails(thread int, err api.Errno) string {
	return strconv.Itoa(thread) + ":!" + strconv.Itoa(int(err))
}

// joined is a net with a connection: socket 0 of stack 0, socket 1 of stack 1.
func joined(t *testing.T) *net {
	t.Helper()
	n := fresh(t)
	n.do(1, newSocket(0, tcp), "0:")
	n.do(1, bind(0, 0, api.Any, 80), "0:")
	n.do(1, listen(0, 0, 5), "0:")
	n.do(1, accept(0, 0))
	n.do(0, newSocket(0, tcp), "0:")
	n.do(0, connect(0, 0, addr1, 80))
	n.run(1, 1, "0: n1 @1:49152")
	if len(n.stacks[0].Waiting()) != 0 {
		t.Fatal("not connected")
	}
	return n
}

func TestP20_1New(t *testing.T) {
	if s, err := New(api.HostConfig{MAC: api.MAC{1}}); err != api.ErrArg || s != nil {
		t.Error(err)
	}
	n := fresh(t)
	if n.stacks[0].Host().Addr() != addr0 || len(n.stacks[0].Waiting()) != 0 {
		t.Error("a new stack")
	}
}

func TestP20_1Do(t *testing.T) {
	n := fresh(t)
	for _, thread := range []int{-1, api.MaxThreads, 1 << 40} {
		n.do(0, newSocket(thread, tcp), fails(thread, api.ErrInval))
	}
	for _, kind := range []int{0, -1, 16, 1 << 40} {
		n.do(0, api.Call{Kind: kind, Fd: 99}, fails(0, api.ErrInval))
	}
	for kind := api.CallBind; kind <= api.CallPeer; kind++ {
		n.do(0, api.Call{Kind: kind, Thread: 31, Fd: 3}, fails(31, api.ErrBadf))
		n.do(0, api.Call{Kind: kind, Thread: 31, Fd: -1}, fails(31, api.ErrBadf))
	}
	n.do(0, newSocket(0, udp), "0:")
	n.do(0, recv(5, 0, 9))
	n.do(0, newSocket(5, tcp), fails(5, api.ErrAlready))
	n.do(0, api.Call{Kind: 99, Thread: 5}, fails(5, api.ErrAlready))
	n.do(0, recv(2, 0, 9))
	if w := n.stacks[0].Waiting(); !slices.Equal(w, []int{2, 5}) {
		t.Error(w)
	}
	n.do(0, closed(0, 0), "0:", fails(5, api.ErrBadf), fails(2, api.ErrBadf))
	if w := n.stacks[0].Waiting(); len(w) != 0 {
		t.Error(w)
	}
}

func TestP20_2Socket(t *testing.T) {
	n := fresh(t)
	n.do(0, newSocket(0, 1), fails(0, api.ErrInval))
	n.do(0, newSocket(0, 0), fails(0, api.ErrInval))
	n.do(0, newSocket(0, tcp), "0:")
	n.do(0, newSocket(0, udp), "0: n1")
	n.do(0, newSocket(0, udp), "0: n2")
	n.do(0, closed(0, 1), "0:")
	n.do(0, newSocket(0, tcp), "0: n1")
	for i := 3; i < api.MaxSockets; i++ {
		n.do(0, newSocket(0, tcp), "0: n"+strconv.Itoa(i))
	}
	n.do(0, newSocket(0, 0), fails(0, api.ErrInval))
	n.do(0, newSocket(0, tcp), fails(0, api.ErrMfile))
}

func TestP20_2BindUDP(t *testing.T) {
	n := fresh(t)
	for i := range 4 {
		n.do(0, newSocket(0, udp), strings.TrimSuffix("0: n"+strconv.Itoa(i), " n0"))
	}
	n.do(0, bind(0, 0, addr1, -1), fails(0, api.ErrInval))
	n.do(0, bind(0, 0, addr1, 65536), fails(0, api.ErrInval))
	n.do(0, bind(0, 0, addr1, 53), fails(0, api.ErrAddr))
	n.do(0, name(0, 0), fails(0, api.ErrInval))
	n.do(0, bind(0, 0, addr0, 53), "0:")
	n.do(0, bind(0, 0, addr1, 53), fails(0, api.ErrInval))
	n.do(0, name(0, 0), "0: @1:53")
	n.do(0, bind(0, 1, api.Any, 53), fails(0, api.ErrInUse))
	n.do(0, bind(0, 1, api.Any, 65535), "0:")
	n.draw = 7
	n.do(0, bind(0, 2, api.Any, 0), "0:")
	n.do(0, name(0, 2), "0: @0:49159")
	h := n.stacks[0].Host()
	for id := 100; id < 100+api.MaxPorts-3; id++ {
		h.Pick(id, api.Any, 0)
	}
	n.do(0, bind(0, 3, api.Any, 9), fails(0, api.ErrNoBufs))
	n.do(0, bind(0, 3, api.Any, 0), fails(0, api.ErrNoBufs))
	n.do(0, connect(0, 3, addr1, 9), fails(0, api.ErrNoBufs))
	n.do(0, sendTo(0, 3, addr1, 9, "x"), fails(0, api.ErrNoBufs))
}

func TestP20_2BindTCP(t *testing.T) {
	n := fresh(t)
	for i := range 5 {
		n.do(0, newSocket(0, tcp), strings.TrimSuffix("0: n"+strconv.Itoa(i), " n0"))
	}
	n.do(0, bind(0, 0, addr1, 80), fails(0, api.ErrAddr))
	n.do(0, bind(0, 0, addr0, 80), "0:")
	n.do(0, bind(0, 0, addr0, 81), fails(0, api.ErrInval))
	n.do(0, bind(0, 1, addr0, 80), fails(0, api.ErrInUse))
	n.do(0, bind(0, 1, api.Any, 80), fails(0, api.ErrInUse))
	n.draw = 16383
	n.do(0, bind(0, 1, api.Any, 0), "0:")
	n.do(0, name(0, 1), "0: @0:65535")
	n.do(0, bind(0, 2, addr0, 0), "0:")
	n.do(0, name(0, 2), "0: @1:49152")
	n.draw = -9
	n.do(0, bind(0, 3, addr0, 0), "0:")
	n.do(0, name(0, 3), "0: @1:49153")
	n.do(0, closed(0, 0), "0:")
	n.do(0, bind(0, 4, api.Any, 80), "0:")
	n.do(0, newSocket(0, udp), "0:")
	n.do(0, bind(0, 0, api.Any, 80), "0:")
}

func TestP20_2BindBesideAccepted(t *testing.T) {
	n := joined(t)
	n.do(1, closed(0, 0), "0:")
	n.do(1, newSocket(0, tcp), "0:")
	n.do(1, bind(0, 0, api.Any, 80), "0:")
}

func TestP20_2Listen(t *testing.T) {
	n := fresh(t)
	n.do(0, newSocket(0, udp), "0:")
	n.do(0, newSocket(0, tcp), "0: n1")
	n.do(0, listen(0, 0, 1), fails(0, api.ErrOpNotSu))
	n.do(0, listen(0, 1, 1), fails(0, api.ErrInval))
	n.do(0, bind(0, 1, api.Any, 80), "0:")
	n.stacks[0].Host().Hub().Listen(addr0, 80, 1)
	n.do(0, listen(0, 1, 1), fails(0, api.ErrInUse))
	for i := range 15 {
		n.stacks[0].Host().Hub().Listen(addr0, 1000+i, 1)
	}
	n.stacks[0].Host().Hub().Deaf(1)
	n.stacks[0].Host().Hub().Listen(addr0, 2000, 1)
	n.do(0, listen(0, 1, 1), fails(0, api.ErrNoBufs))
	n.stacks[0].Host().Hub().Deaf(2)
	n.do(0, listen(0, 1, -5), "0:")
	n.do(0, listen(0, 1, 1), fails(0, api.ErrInval))
	n.do(0, closed(0, 1), "0:")
	n.do(0, newSocket(0, tcp), "0: n1")
	n.do(0, bind(0, 1, api.Any, 80), "0:")
	n.do(0, listen(0, 1, 1000), "0:")

	n = joined(t)
	n.do(0, listen(0, 0, 1), fails(0, api.ErrInval))
	n.do(1, listen(0, 1, 1), fails(0, api.ErrInval))
}

func TestP20_2Accept(t *testing.T) {
	n := joined(t)
	n.do(1, name(0, 1), "0: @2:80")
	n.do(1, peer(0, 1), "0: @1:49152")
	n.do(0, peer(0, 0), "0: @2:80")
	n.do(0, name(0, 0), "0: @0:49152")
	n.do(1, accept(0, 1), fails(0, api.ErrInval))
	n.do(1, newSocket(0, udp), "0: n2")
	n.do(1, accept(0, 2), fails(0, api.ErrOpNotSu))
	n.do(1, option(0, 0, api.OptNoBlock, 1), "0:")
	n.do(1, accept(0, 0), fails(0, api.ErrAgain))
	n.do(1, option(0, 0, api.OptNoBlock, 0), "0:")
	for i := 3; i < api.MaxSockets; i++ {
		n.do(1, newSocket(0, tcp), "0: n"+strconv.Itoa(i))
	}
	n.do(1, accept(0, 0), fails(0, api.ErrMfile))
	n.do(1, closed(0, 2), "0:")
	n.do(1, accept(0, 0))
	n.do(0, newSocket(0, tcp), "0: n1")
	n.do(0, connect(0, 1, addr1, 80))
	n.run(0, 1, "0: n2 @1:49153")
}

func TestP20_2AcceptInOrder(t *testing.T) {
	n := fresh(t)
	n.do(1, newSocket(0, tcp), "0:")
	n.do(1, bind(0, 0, addr1, 80), "0:")
	n.do(1, listen(0, 0, 5), "0:")
	n.do(1, accept(7, 0))
	n.do(1, accept(3, 0))
	for i := range 3 {
		n.draw = 10 * i
		n.do(0, newSocket(i, tcp), strings.TrimSuffix(strconv.Itoa(i)+": n"+strconv.Itoa(i), " n0"))
		n.do(0, connect(i, i, addr1, 80))
	}
	n.run(0, 1, "7: n1 @1:49152", "3: n2 @1:49162")
	n.do(1, poll(0, 0, 7), "0: n1")
	n.do(1, accept(0, 0), "0: n3 @1:49172")
	n.do(1, poll(0, 0, 7), "0:")
}

func TestP20_2ConnectUDP(t *testing.T) {
	n := fresh(t)
	n.do(0, newSocket(0, udp), "0:")
	n.do(0, connect(0, 0, addr1, 0), fails(0, api.ErrInval))
	n.do(0, connect(0, 0, 0, 65536), fails(0, api.ErrInval))
	n.do(0, connect(0, 0, 0, 9), fails(0, api.ErrDest))
	n.do(0, peer(0, 0), fails(0, api.ErrNotConn))
	n.do(0, send(0, 0, "x"), fails(0, api.ErrDest))
	n.draw = 5
	n.do(0, connect(0, 0, addr1, 9), "0:")
	n.do(0, name(0, 0), "0: @0:49157")
	n.do(0, peer(0, 0), "0: @2:9")
	n.do(0, send(0, 0, "hello"), "0: n5")
	n.do(0, recv(1, 0, 9))
	n.run(0, 0, fails(1, api.ErrRefused))
	n.do(0, send(0, 0, "hello"), "0: n5")
	n.run(0, 0)
	n.do(0, poll(0, 0, 7), "0: n3")
	n.do(0, send(0, 0, "hello"), fails(0, api.ErrRefused))
	n.do(0, poll(0, 0, 7), "0: n2")
	n.do(0, connect(0, 0, addr1, 10), "0:")
	n.do(0, peer(0, 0), "0: @2:10")
	for _, k := range []int{api.CallListen, api.CallAccept, api.CallShut} {
		n.do(0, api.Call{Kind: k}, fails(0, api.ErrOpNotSu))
	}
}

func TestP20_2ConnectTCP(t *testing.T) {
	n := joined(t)
	n.do(0, connect(0, 0, addr1, 0), fails(0, api.ErrInval))
	n.do(0, connect(0, 0, 0, 9), fails(0, api.ErrDest))
	n.do(0, connect(0, 0, addr1, 80), fails(0, api.ErrIsConn))
	n.do(1, connect(0, 0, addr0, 80), fails(0, api.ErrOpNotSu))
	n.do(0, newSocket(0, tcp), "0: n1")
	n.do(0, bind(0, 1, api.Any, 5000), "0:")
	n.do(0, connect(0, 1, addr1, 81))
	n.do(0, connect(1, 1, addr1, 81), fails(1, api.ErrAlready))
	n.run(0, 0, fails(0, api.ErrRefused))
	n.do(0, name(0, 1), fails(0, api.ErrInval))
	n.do(0, peer(0, 1), fails(0, api.ErrNotConn))
	n.do(0, option(0, 1, api.OptNoBlock, 1), "0:")
	n.do(0, connect(0, 1, addr1, 81), fails(0, api.ErrAgain))
	n.do(0, connect(0, 1, addr1, 81), fails(0, api.ErrAlready))
	n.run(0, 0)
	n.do(0, connect(0, 1, addr1, 81), fails(0, api.ErrIsConn))
	n.do(0, poll(0, 1, 7), "0: n7")
	n.do(0, recv(0, 1, 1), fails(0, api.ErrRefused))
	if c, _ := n.stacks[0].Host().Hub().Count(); c != 2 {
		t.Error(c)
	}
	none, _ := New(api.HostConfig{MAC: api.MAC{2}})
	none.Do(newSocket(0, tcp))
	if r, _ := none.Do(connect(0, 0, addr1, 80)); r[0].Err != api.ErrAddr {
		t.Error(r)
	}
	if r, _ := none.Do(name(0, 0)); r[0].Err != api.ErrInval {
		t.Error("bound before ErrAddr:", r)
	}
}

func TestP20_2ConnectFull(t *testing.T) {
	n := fresh(t)
	n.do(0, newSocket(0, tcp), "0:")
	n.do(0, bind(0, 0, api.Any, 1000), "0:")
	hub := n.stacks[0].Host().Hub()
	c := api.Config{Local: addr0, LocalPort: 1000, Peer: addr1, PeerPort: 80, MSS: 1460, SendRoom: 9, RecvRoom: 9}
	hub.Open(c, 0)
	n.do(0, connect(0, 0, addr1, 80), fails(0, api.ErrInUse))
	for i := range 63 {
		c.LocalPort = 2000 + i
		hub.Open(c, 0)
	}
	n.do(0, newSocket(0, tcp), "0: n1")
	n.do(0, connect(0, 1, addr1, 80), fails(0, api.ErrNoBufs))
	n.do(0, name(0, 1), "0: @0:49152")
}

func TestP20_2ConnectBothWays(t *testing.T) {
	n := fresh(t)
	for i := range 2 {
		n.do(i, newSocket(0, tcp), "0:")
		n.do(i, bind(0, 0, api.Any, 5000), "0:")
	}
	n.do(0, connect(0, 0, addr1, 5000))
	n.do(1, connect(0, 0, addr0, 5000))
	give := func(i int) {
		f := n.way[i][0]
		n.way[i] = n.way[i][1:]
		returns, frames := n.stacks[i].Frame(f, n.now, 0)
		if got := n.take(i, returns, frames); len(got) != 0 {
			t.Error(got)
		}
	}
	give(0)
	give(1)
	give(0)
	if s, _ := n.stacks[0].Host().Hub().State(1); s != api.SynReceived {
		t.Fatal(s)
	}
	n.do(0, connect(1, 0, addr1, 5000), fails(1, api.ErrAlready))
	n.do(0, poll(1, 0, 7), "1:")
	n.run(3, 1, "0:")
	if len(n.stacks[0].Waiting()) != 0 {
		t.Error("it waits yet")
	}
	n.do(0, send(0, 0, "x"), "0: n1")
	n.run(0, 1)
	n.do(1, recv(0, 0, 9), "0: n1 x")
}

func TestP20_2ShutBeforeEstablished(t *testing.T) {
	n := fresh(t)
	n.do(0, newSocket(0, tcp), "0:")
	n.do(0, bind(0, 0, api.Any, 5000), "0:")
	n.do(0, option(0, 0, api.OptNoBlock, 1), "0:")
	n.do(1, newSocket(0, tcp), "0:")
	n.do(1, bind(0, 0, api.Any, 5000), "0:")
	n.do(0, connect(0, 0, addr1, 5000), fails(0, api.ErrAgain))
	n.do(1, connect(0, 0, addr0, 5000))
	for _, i := range []int{0, 1, 0} {
		f := n.way[i][0]
		n.way[i] = n.way[i][1:]
		returns, frames := n.stacks[i].Frame(f, n.now, 0)
		n.take(i, returns, frames)
	}
	n.do(0, poll(0, 0, 7), "0:")
	n.do(0, shut(0, 0), "0:")
	n.do(0, poll(0, 0, 7), "0: n2")
	n.do(0, send(0, 0, "x"), fails(0, api.ErrPipe))
}

func TestP20_2ConnectSegment(t *testing.T) {
	n := joined(t)
	n.draw = 12345678901
	n.do(0, newSocket(0, tcp), "0: n1")
	n.do(0, connect(0, 1, addr1, 80))
	f, _ := ether.Decode(n.way[1][0])
	p, _ := ipv4.Decode(f.Data)
	s, err := segment.Decode(p.From, p.To, p.Data)
	if err != api.OK || s.Flags != api.Syn || s.MSS != 1460 || s.Scale != 2 || s.Window != api.SockRoom || s.Seq != 12345678901&0xffffffff || s.From != addr0 || s.ToPort != 80 {
		t.Error(s, err)
	}
}

func TestP20_2Backlog(t *testing.T) {
	for backlog, want := range map[int]int{-5: 1, 0: 1, 1: 1, 2: 2, 33: 3} {
		n := fresh(t)
		n.do(1, newSocket(0, tcp), "0:")
		n.do(1, bind(0, 0, api.Any, 80), "0:")
		n.do(1, listen(0, 0, backlog), "0:")
		for i := range 3 {
			n.do(0, newSocket(i, tcp), strings.TrimSuffix(strconv.Itoa(i)+": n"+strconv.Itoa(i), " n0"))
			n.do(0, connect(i, i, addr1, 80))
			f := n.way
			for len(f[0])+len(f[1]) > 0 {
				for k := range 2 {
					if len(n.way[k]) > 0 {
						b := n.way[k][0]
						n.way[k] = n.way[k][1:]
						returns, frames := n.stacks[k].Frame(b, 0, 0)
						n.take(k, returns, frames)
					}
				}
				f = n.way
			}
		}
		if c, _ := n.stacks[1].Host().Hub().Count(); c != want {
			t.Error(backlog, c)
		}
	}
}

func TestP20_2OneByte(t *testing.T) {
	n := joined(t)
	n.do(0, send(0, 0, strings.Repeat("x", 8191)), "0: n8191")
	n.do(0, poll(0, 0, 7), "0: n2")
	n.do(0, option(0, 0, api.OptNoBlock, 1), "0:")
	n.do(0, send(0, 0, "yy"), "0: n1")
	n.do(0, poll(0, 0, 7), "0:")
}

func TestP20_2OneDatagram(t *testing.T) {
	n := fresh(t)
	n.do(1, newSocket(0, udp), "0:")
	n.do(1, bind(0, 0, addr1, 1), "0:")
	n.do(0, newSocket(0, udp), "0:")
	n.do(0, connect(0, 0, addr1, 65535), "0:")
	n.do(0, connect(0, 0, addr1, 1), "0:")
	n.do(0, send(0, 0, "ab"), "0: n2")
	n.run(0, 1)
	n.do(1, poll(0, 0, 7), "0: n3")
	n.do(1, recv(0, 0, 1), "0: n1 @1:49152 a")
	n.do(1, poll(0, 0, 7), "0: n2")
	n.do(0, newSocket(0, tcp), "0: n1")
	n.do(0, bind(0, 1, api.Any, 65535), "0:")
}

// TestP20_2UnderneathTheStack: what is done to the host itself makes calls fail, and nothing else.
func TestP20_2UnderneathTheStack(t *testing.T) {
	n := joined(t)
	hub := n.stacks[1].Host().Hub()
	n.do(1, accept(0, 0))
	hub.Deaf(1)
	n.do(1, newSocket(1, udp), "1: n2", fails(0, api.ErrNone))
	hub.Drop(2, 0)
	n.do(1, peer(0, 1), fails(0, api.ErrNone))
	n.do(1, recv(0, 1, 1), fails(0, api.ErrNone))
	n.do(1, send(0, 1, "x"), fails(0, api.ErrNone))
	n.do(1, shut(0, 1), fails(0, api.ErrNone))
	n.do(1, closed(0, 1), "0:")
	n.do(1, closed(0, 0), "0:")
	n.stacks[1].Host().Bind(2, api.Any, 9)
	n.do(1, bind(0, 2, api.Any, 10), fails(0, api.ErrExists))
	n.stacks[1].Host().Free(2)
	n.do(1, bind(0, 2, api.Any, 10), "0:")
	n.stacks[1].Host().Free(2)
	n.do(1, connect(0, 2, addr0, 10), fails(0, api.ErrNone))
	n.do(1, peer(0, 2), fails(0, api.ErrNotConn))
}

func TestP20_2ConnectAndShut(t *testing.T) {
	n := fresh(t)
	n.do(0, newSocket(0, tcp), "0:")
	n.do(0, connect(0, 0, addr1, 80))
	n.do(0, shut(1, 0), "1:", fails(0, api.ErrRefused))
	n.do(0, name(0, 0), fails(0, api.ErrInval))
	n.do(0, connect(0, 0, addr1, 80))
	n.do(0, closed(1, 0), "1:", fails(0, api.ErrBadf))
	n.do(0, newSocket(0, tcp), "0:")
	n.do(0, connect(0, 0, addr1, 80))
	n.do(0, option(1, 0, api.OptNoBlock, 1), "1:", fails(0, api.ErrAgain))
}

func TestP20_2Timeout(t *testing.T) {
	n := fresh(t)
	n.do(0, newSocket(0, tcp), "0:")
	n.do(0, connect(4, 0, addr1, 80))
	n.way[1] = nil
	for range 4000 {
		n.now++
		returns, _ := n.stacks[0].Tick(n.now, 0)
		if len(returns) > 0 {
			if got := text(returns[0]); got != fails(4, api.ErrTimeout) {
				t.Error(got)
			}
			return
		}
	}
	t.Error("it never ends")
}

func TestP20_2SendTCP(t *testing.T) {
	n := joined(t)
	n.do(0, send(0, 0, "hello"), "0: n5")
	n.do(0, send(0, 0, ""), "0:")
	n.run(5, 1)
	n.do(1, recv(0, 1, 3), "0: n3 hel")
	n.do(1, recv(0, 1, 99), "0: n2 lo")
	n.do(1, recv(0, 1, 99))
	n.do(0, newSocket(0, tcp), "0: n1")
	n.do(0, send(0, 1, ""), fails(0, api.ErrNotConn))
	n.do(0, recv(0, 1, 0), fails(0, api.ErrInval))
	n.do(0, recv(0, 1, 1), fails(0, api.ErrNotConn))
	n.do(0, shut(0, 1), fails(0, api.ErrNotConn))
	n.do(0, shut(0, 0), "0:")
	n.do(0, shut(0, 0), fails(0, api.ErrNotConn))
	n.do(0, send(0, 0, "x"), fails(0, api.ErrPipe))
	n.run(5, 1, "0:")
	n.do(1, recv(0, 1, 99), "0:")
	n.do(1, send(0, 1, "back"), "0: n4")
	n.do(1, closed(0, 1), "0:")
	n.do(1, recv(0, 1, 99), fails(0, api.ErrBadf))
	n.run(5, 0)
	n.do(0, recv(0, 0, 99), "0: n4 back")
	n.do(0, recv(0, 0, 99), "0:")
}

func TestP20_2SendMore(t *testing.T) {
	n := joined(t)
	big := strings.Repeat("0123456789", 3000)
	data := []byte(big)
	returns, frames := n.stacks[0].Do(api.Call{Kind: api.CallSend, Data: data})
	n.take(0, returns, frames)
	if len(returns) != 0 {
		t.Error("more than fits is accepted at once", returns)
	}
	clear(data)
	n.do(1, recv(0, 1, 40000))
	var got bytes.Buffer
	for range 4000 {
		returns, frames := n.stacks[1].Do(recv(0, 1, 1000))
		n.take(1, returns, frames)
		for _, r := range returns {
			got.Write(r.Data)
		}
		for i, s := range n.stacks {
			for len(n.way[i]) > 0 {
				f := n.way[i][0]
				n.way[i] = n.way[i][1:]
				returns, frames := s.Frame(f, n.now, 0)
				n.take(i, returns, frames)
				for _, r := range returns {
					if i == 0 && text(r) != "0: n30000" {
						t.Error(text(r))
					}
					got.Write(r.Data)
				}
			}
		}
		n.now++
		for i, s := range n.stacks {
			returns, frames := s.Tick(n.now, 0)
			n.take(i, returns, frames)
			for _, r := range returns {
				got.Write(r.Data)
			}
		}
	}
	if got.String() != big || len(n.stacks[0].Waiting()) != 0 {
		t.Error(got.Len(), n.stacks[0].Waiting())
	}
}

func TestP20_2SendNoBlock(t *testing.T) {
	n := joined(t)
	n.do(0, option(0, 0, api.OptNoBlock, 1), "0:")
	n.do(0, send(0, 0, strings.Repeat("x", 10000)), "0: n8192")
	n.do(0, send(0, 0, "x"), fails(0, api.ErrAgain))
	n.do(0, poll(0, 0, 7), "0:")
	n.do(0, option(0, 0, api.OptNoBlock, 0), "0:")
	n.do(0, send(1, 0, "x"))
	n.do(0, option(0, 0, api.OptNoBlock, 1), "0:", fails(1, api.ErrAgain))

	n = joined(t)
	n.do(0, send(1, 0, strings.Repeat("x", 10000)))
	n.do(0, option(0, 0, api.OptNoBlock, 1), "0:", "1: n8192")
}

func TestP20_2RecvUDP(t *testing.T) {
	n := fresh(t)
	n.do(1, newSocket(0, udp), "0:")
	n.do(1, bind(0, 0, addr1, 9), "0:")
	n.do(1, recv(0, 0, 0), fails(0, api.ErrInval))
	n.do(1, recvFrom(0, 0, -1), fails(0, api.ErrInval))
	n.do(0, newSocket(0, udp), "0:")
	n.do(0, sendTo(0, 0, addr1, 0, "x"), fails(0, api.ErrInval))
	n.do(0, sendTo(0, 0, 0, 9, "x"), fails(0, api.ErrDest))
	n.do(0, name(0, 0), fails(0, api.ErrInval))
	n.do(0, sendTo(0, 0, 0x08080808, 9, "x"), fails(0, api.ErrNoRoute))
	n.do(0, name(0, 0), "0: @0:49152")
	n.do(0, sendTo(0, 0, addr1, 9, strings.Repeat("x", 65508)), fails(0, api.ErrMsgSize))
	n.do(0, sendTo(0, 0, addr1, 9, "first"), "0: n5")
	n.do(0, sendTo(0, 0, addr1, 9, "second"), "0: n6")
	n.do(0, sendTo(0, 0, addr1, 9, ""), "0:")
	n.run(0, 1)
	n.do(1, poll(0, 0, 7), "0: n3")
	n.do(1, poll(0, 0, api.CanRead|api.HasEnded), "0: n1")
	n.do(1, recvFrom(0, 0, 3), "0: n3 @1:49152 fir")
	n.do(1, recv(0, 0, 99), "0: n6 @1:49152 second")
	n.do(1, recv(0, 0, 99), "0: @1:49152")
	n.do(1, poll(0, 0, 7), "0: n2")
	n.do(1, option(0, 0, api.OptNoBlock, 1), "0:")
	n.do(1, recv(0, 0, 99), fails(0, api.ErrAgain))
	n.do(1, option(0, 0, api.OptNoBlock, 0), "0:")
	n.do(1, recvFrom(8, 0, 99))
	n.do(1, recvFrom(6, 0, 99))
	n.do(0, sendTo(0, 0, addr1, 9, "third"), "0: n5")
	n.run(0, 1, "8: n5 @1:49152 third")
	n.do(1, closed(0, 0), "0:", fails(6, api.ErrBadf))
	n.do(0, newSocket(0, tcp), "0: n1")
	n.do(0, sendTo(0, 1, addr1, 9, "x"), fails(0, api.ErrOpNotSu))
	n.do(0, recvFrom(0, 1, 0), fails(0, api.ErrOpNotSu))
	n.do(1, newSocket(0, udp), "0:")
	n.do(1, bind(0, 0, addr1, 9), "0:")
}

func TestP20_2Option(t *testing.T) {
	n := fresh(t)
	n.do(0, newSocket(0, udp), "0:")
	for _, c := range [][2]int{{0, 0}, {4, 0}, {-1, 0}, {1, -1}, {2, -1}, {3, -1}, {1, 2}, {2, 2}, {3, api.MaxTick + 1}} {
		n.do(0, option(0, 0, c[0], c[1]), fails(0, api.ErrInval))
	}
	for _, c := range [][2]int{{1, 1}, {1, 0}, {2, 1}, {3, api.MaxTick}, {3, 0}} {
		n.do(0, option(0, 0, c[0], c[1]), "0:")
	}
}

func TestP20_2KeepAndNoDelay(t *testing.T) {
	n := fresh(t)
	n.do(1, newSocket(0, tcp), "0:")
	n.do(1, bind(0, 0, api.Any, 80), "0:")
	n.do(1, listen(0, 0, 5), "0:")
	n.do(0, newSocket(0, tcp), "0:")
	n.do(0, option(0, 0, api.OptKeep, 50), "0:")
	n.do(0, option(0, 0, api.OptNoDelay, 1), "0:")
	n.do(0, connect(0, 0, addr1, 80))
	n.run(0, 0, "0:")
	n.do(0, send(0, 0, "a"), "0: n1")
	n.do(0, send(0, 0, "b"), "0: n1")
	if len(n.way[1]) != 2 {
		t.Error("small segments wait:", len(n.way[1]))
	}
	n.run(20, 0)
	sent := 0
	for range 100 {
		n.now++
		_, frames := n.stacks[0].Tick(n.now, 0)
		sent += len(frames)
	}
	if sent < 1 {
		t.Error("the peer is not asked")
	}
}

func TestP20_2PollAndClose(t *testing.T) {
	n := joined(t)
	n.do(0, poll(0, 0, 7), "0: n2")
	n.do(0, poll(0, 0, api.CanRead), "0:")
	n.do(1, poll(0, 0, 7), "0:")
	n.do(1, send(0, 1, "x"), "0: n1")
	n.run(5, 0)
	n.do(0, poll(0, 0, 7), "0: n3")
	n.do(1, shut(0, 1), "0:")
	n.do(1, poll(0, 1, 7), "0: n2")
	n.run(5, 0)
	n.do(0, poll(0, 0, 7), "0: n7")
	n.do(0, poll(0, 0, -1), "0: n7")
	n.do(0, poll(0, 0, 0), "0:")
	n.do(0, closed(0, 0), "0:")
	n.run(5, 1)
	n.do(1, poll(0, 1, 7), "0: n7")
	n.do(1, recv(0, 1, 9), fails(0, api.ErrReset))
	n.do(0, newSocket(0, tcp), "0:")
	n.do(0, poll(0, 0, 7), "0:")
	n.do(1, closed(0, 0), "0:")
	n.do(1, closed(0, 1), "0:")
	if c, l := n.stacks[1].Host().Hub().Count(); c != 0 || l != 0 {
		t.Error(c, l)
	}
}

func TestP20_2ToOneself(t *testing.T) {
	n := fresh(t)
	n.do(0, newSocket(0, tcp), "0:")
	n.do(0, bind(0, 0, api.Any, 80), "0:")
	n.do(0, listen(0, 0, 5), "0:")
	n.do(0, accept(1, 0))
	n.do(0, newSocket(0, tcp), "0: n1")
	n.do(0, connect(0, 1, addr0, 80), "0:", "1: n2 @1:49152")
	n.do(0, recv(1, 2, 100))
	n.do(0, send(0, 1, "me"), "0: n2", "1: n2 me")
}

func TestP20_2ToOneselfNoBlock(t *testing.T) {
	n := fresh(t)
	n.do(0, newSocket(0, tcp), "0:")
	n.do(0, bind(0, 0, api.Any, 80), "0:")
	n.do(0, listen(0, 0, 5), "0:")
	n.do(0, newSocket(0, tcp), "0: n1")
	n.do(0, option(0, 1, api.OptNoBlock, 1), "0:")
	n.do(0, connect(0, 1, addr0, 80), fails(0, api.ErrAgain))
	n.do(0, connect(0, 1, addr0, 80), fails(0, api.ErrIsConn))
}

func TestP20_3FramesFirst(t *testing.T) {
	n := fresh(t)
	n.do(0, newSocket(0, udp), "0:")
	n.do(0, newSocket(0, udp), "0: n1")
	n.do(0, bind(0, 0, api.Any, 9), "0:")
	n.do(1, newSocket(0, udp), "0:")
	n.do(0, recv(0, 0, 9))
	n.do(1, sendTo(0, 0, addr0, 9, "x"), "0: n1")
	n.run(3, 0, "0: n1 @2:49152 x")
	n.do(0, recv(0, 0, 9))
	if returns, frames := n.stacks[0].Tick(99, 0); len(returns) != 0 || len(frames) != 0 {
		t.Error(returns, frames)
	}
}

func TestP20_4OneAnswerACall(t *testing.T) {
	for seed := range uint32(20) {
		n := fresh(t)
		x := seed
		draw := func(k int) int {
			x = x*1664525 + 1013904223
			return int(x>>8) % k
		}
		waiting := [2]map[int]bool{{}, {}}
		check := func(i int, returns []api.Return, frames [][]byte, thread int) {
			n.take(i, returns, frames)
			for k, r := range returns {
				if k == 0 && r.Thread == thread {
					continue
				}
				if !waiting[i][r.Thread] {
					t.Fatal("a Return of a call that did not wait")
				}
				delete(waiting[i], r.Thread)
			}
		}
		for range 3000 {
			i := draw(2)
			c := api.Call{Kind: 1 + draw(15), Thread: draw(5), Fd: draw(7), Addr: []api.Addr{addr0, addr1, addr1, 0}[draw(4)], Port: []int{0, 1, 80, 81, 2}[draw(5)], N: []int{6, 17, 1, 2, 3000}[draw(5)], Data: make([]byte, draw(4000)), Now: n.now, Draw: draw(1 << 30)}
			was := waiting[i][c.Thread]
			returns, frames := n.stacks[i].Do(c)
			if was && returns[0].Err != api.ErrAlready {
				t.Fatal("a thread waits twice")
			}
			if len(returns) == 0 || returns[0].Thread != c.Thread {
				waiting[i][c.Thread] = true
			}
			thread := c.Thread
			if waiting[i][c.Thread] && !was {
				thread = -1
			}
			check(i, returns, frames, thread)
			if w := n.stacks[i].Waiting(); len(w) != len(waiting[i]) {
				t.Fatal(w, waiting[i])
			}
			for range draw(6) {
				for i, s := range n.stacks {
					if len(n.way[i]) > 0 {
						f := n.way[i][0]
						n.way[i] = n.way[i][1:]
						returns, frames := s.Frame(f, n.now, draw(1<<30))
						check(i, returns, frames, -1)
					}
				}
			}
			n.now += draw(3)
			for i, s := range n.stacks {
				returns, frames := s.Tick(n.now, draw(1<<30))
				check(i, returns, frames, -1)
			}
		}
	}
}

func TestP20_5NilAndMemory(t *testing.T) {
	var none *Stack
	for _, s := range []*Stack{none, {}} {
		if r, f := s.Do(newSocket(3, tcp)); len(r) != 1 || text(r[0]) != fails(3, api.ErrArg) || len(f) != 0 {
			t.Error(r)
		}
		if r, f := s.Frame(nil, 0, 0); len(r) != 0 || len(f) != 0 {
			t.Error(r)
		}
		if r, f := s.Tick(0, 0); len(r) != 0 || len(f) != 0 {
			t.Error(r)
		}
		if len(s.Waiting()) != 0 || s.Host() != nil {
			t.Error("a nil Stack")
		}
	}
	n := fresh(t)
	n.do(0, newSocket(0, udp), "0:")
	n.do(0, recv(0, 0, 9))
	other := *n.stacks[0]
	if r, _ := other.Do(closed(1, 0)); len(r) != 2 || text(r[1]) != fails(0, api.ErrBadf) {
		t.Error("a copy does not work:", r)
	}
}
