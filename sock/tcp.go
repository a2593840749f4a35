package sock

import "wharf/api"

// tcpSocket is a socket of connections.
type tcpSocket struct {
	common
	listener int  // its number in the Hub; 0: it is not listening
	conn     int  // its number in the Hub; 0: it is not connected
	accepted bool // it was created by CallAccept
	isShut   bool
}

func (s *tcpSocket) holds(a api.Addr, port int) bool {
	return s.bound && !s.accepted && s.port == port && (s.addr == a || s.addr == api.Any || a == api.Any)
}

// taken tells whether an address and port may not be bound.
func taken(t *turn, a api.Addr, port int) bool {
	for _, s := range t.sockets {
		if s.holds(a, port) {
			return true
		}
	}
	return false
}

func (s *tcpSocket) bind(t *turn, c api.Call) (api.Return, api.Errno) {
	if err := s.mayBind(t, c); err != api.OK {
		return api.Return{}, err
	}
	if c.Port == 0 {
		return api.Return{}, s.pick(t, c.Addr)
	}
	if taken(t, c.Addr, c.Port) {
		return api.Return{}, api.ErrInUse
	}
	s.bindTo(c.Addr, c.Port)
	return api.Return{}, api.OK
}

// pick binds the socket to a free port.
func (s *tcpSocket) pick(t *turn, a api.Addr) api.Errno {
	const ports = mostPort + 1 - api.FirstFree
	first := max(t.draw, 0) % ports
	for i := range ports {
		port := api.FirstFree + (first+i)%ports
		if !taken(t, a, port) {
			s.bindTo(a, port)
			return api.OK
		}
	}
	return api.ErrInUse
}

func (s *tcpSocket) listen(t *turn, c api.Call) (api.Return, api.Errno) {
	if !s.bound || s.listener != 0 || s.conn != 0 {
		return api.Return{}, api.ErrInval
	}
	id, err := t.host.Hub().Listen(s.addr, s.port, min(max(c.N, 1), api.MaxBacklog))
	if err != api.OK {
		return api.Return{}, noBufs(err)
	}
	s.listener = id
	return api.Return{}, api.OK
}

func (s *tcpSocket) accept(t *turn, _ api.Call) (api.Return, api.Errno) {
	if s.listener == 0 {
		return api.Return{}, api.ErrInval
	}
	if len(t.sockets) >= api.MaxSockets {
		return api.Return{}, api.ErrMfile
	}
	id, err := t.host.Hub().Accept(s.listener)
	if err == api.ErrAgain {
		return api.Return{}, wait
	}
	if err != api.OK {
		return api.Return{}, err
	}
	f, _ := t.host.Hub().Peer(id)
	one := &tcpSocket{conn: id, accepted: true}
	one.bindTo(f.From, f.FromPort)
	return api.Return{N: t.add(one), Addr: f.To, Port: f.ToPort}, api.OK
}

func (s *tcpSocket) connect(c api.Call) work {
	opened := false
	return func(t *turn) (api.Return, api.Errno) {
		if !opened {
			if err := s.open(t, c); err != api.OK {
				return api.Return{}, err
			}
			opened = true
			if s.noBlock() {
				return api.Return{}, api.ErrAgain
			}
		}
		return api.Return{}, s.connected(t)
	}
}

// open begins a connection.
func (s *tcpSocket) open(t *turn, c api.Call) api.Errno {
	if err := s.mayOpen(t, c); err != api.OK {
		return err
	}
	if !s.bound {
		if err := s.pick(t, api.Any); err != api.OK {
			return err
		}
	}
	id, l, err := t.host.Hub().Open(api.Config{
		Local: t.host.Addr(), LocalPort: s.port, Peer: c.Addr, PeerPort: c.Port,
		ISS: uint32(t.draw), MSS: segmentMSS, SendRoom: api.SockRoom, RecvRoom: api.SockRoom, Scale: windowScale,
		NoDelay: s.options[api.OptNoDelay] != 0, Keep: s.options[api.OptKeep],
	}, t.now)
	if err != api.OK {
		return noBufs(err)
	}
	s.conn, s.isShut = id, false
	t.segments(l)
	return api.OK
}

// mayOpen is the first error of a CallConnect, before the socket is bound.
func (s *tcpSocket) mayOpen(t *turn, c api.Call) api.Errno {
	if err := mayReach(c); err != api.OK {
		return err
	}
	if s.listener != 0 {
		return api.ErrOpNotSu
	}
	if s.conn != 0 {
		switch state, _ := t.host.Hub().State(s.conn); state {
		case api.SynSent, api.SynReceived:
			return api.ErrAlready
		}
		return api.ErrIsConn
	}
	if t.host.Addr() == 0 {
		return api.ErrAddr
	}
	return api.OK
}

// connected is what has become of a connection that was opened.
func (s *tcpSocket) connected(t *turn) api.Errno {
	state, why := t.host.Hub().State(s.conn)
	switch state {
	case api.SynSent, api.SynReceived:
		return wait
	case api.Closed:
	default:
		return api.OK
	}
	l, _ := t.host.Hub().Drop(s.conn, t.now)
	t.segments(l)
	s.conn, s.isShut, s.bound, s.addr, s.port = 0, false, false, 0, 0
	if why == api.OK {
		return api.ErrRefused
	}
	return why
}

func (s *tcpSocket) send(c api.Call) work {
	accepted := 0
	return func(t *turn) (api.Return, api.Errno) {
		if s.conn == 0 {
			return api.Return{}, api.ErrNotConn
		}
		for {
			n, l, err := t.host.Hub().Send(s.conn, c.Data[accepted:], t.now)
			t.segments(l)
			accepted += n
			switch {
			case err == api.ErrAgain && s.noBlock() && accepted > 0:
				return api.Return{N: accepted}, api.OK
			case err == api.ErrAgain:
				return api.Return{}, wait
			case err != api.OK:
				return api.Return{}, err
			case accepted == len(c.Data):
				return api.Return{N: accepted}, api.OK
			}
		}
	}
}

func (s *tcpSocket) recv(t *turn, c api.Call) (api.Return, api.Errno) {
	if c.N < 1 {
		return api.Return{}, api.ErrInval
	}
	if s.conn == 0 {
		return api.Return{}, api.ErrNotConn
	}
	b, l, err := t.host.Hub().Recv(s.conn, c.N, t.now)
	t.segments(l)
	if err == api.ErrAgain {
		return api.Return{}, wait
	}
	if err != api.OK {
		return api.Return{}, err
	}
	return api.Return{N: len(b), Data: b}, api.OK
}

func (s *tcpSocket) sendTo(*turn, api.Call) (api.Return, api.Errno) {
	return api.Return{}, api.ErrOpNotSu
}

func (s *tcpSocket) recvFrom(*turn, api.Call) (api.Return, api.Errno) {
	return api.Return{}, api.ErrOpNotSu
}

func (s *tcpSocket) shut(t *turn, _ api.Call) (api.Return, api.Errno) {
	if s.conn == 0 {
		return api.Return{}, api.ErrNotConn
	}
	l, err := t.host.Hub().Shut(s.conn, t.now)
	if err != api.OK {
		return api.Return{}, err
	}
	s.isShut = true
	t.segments(l)
	return api.Return{}, api.OK
}

func (s *tcpSocket) poll(t *turn, c api.Call) (api.Return, api.Errno) {
	if s.listener != 0 {
		return events(c.N, t.host.Hub().Waits(s.listener) > 0, false, false)
	}
	if s.conn == 0 {
		return events(c.N, false, false, false)
	}
	state, _ := t.host.Hub().State(s.conn)
	room, bytes, end := t.host.Hub().Room(s.conn)
	closed := state == api.Closed
	return events(c.N, bytes > 0 || end || closed, room > 0 || s.isShut || closed, end || closed)
}

func (s *tcpSocket) peer(t *turn, _ api.Call) (api.Return, api.Errno) {
	if s.conn == 0 {
		return api.Return{}, api.ErrNotConn
	}
	f, err := t.host.Hub().Peer(s.conn)
	if err != api.OK {
		return api.Return{}, err
	}
	return api.Return{Addr: f.To, Port: f.ToPort}, api.OK
}

func (s *tcpSocket) discard(t *turn) {
	if s.conn != 0 {
		l, _ := t.host.Hub().Drop(s.conn, t.now)
		t.segments(l)
	}
	if s.listener != 0 {
		l, _ := t.host.Hub().Deaf(s.listener)
		t.segments(l)
	}
}
