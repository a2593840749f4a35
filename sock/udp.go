package sock

import "wharf/api"

// udpSocket is a socket of datagrams. Its number is its id in the ports of the host.
type udpSocket struct {
	common
	to     api.Addr
	toPort int // 0: it is not connected
}

func (s *udpSocket) bind(t *turn, c api.Call) (api.Return, api.Errno) {
	if err := s.mayBind(t, c); err != api.OK {
		return api.Return{}, err
	}
	if c.Port == 0 {
		return api.Return{}, s.pick(t, c.Addr)
	}
	if err := t.host.Bind(s.fd, c.Addr, c.Port); err != api.OK {
		return api.Return{}, noBufs(err)
	}
	s.bindTo(c.Addr, c.Port)
	return api.Return{}, api.OK
}

// pick binds the socket to a free port.
func (s *udpSocket) pick(t *turn, a api.Addr) api.Errno {
	port, err := t.host.Pick(s.fd, a, t.draw)
	if err != api.OK {
		return noBufs(err)
	}
	s.bindTo(a, port)
	return api.OK
}

// needPort binds the socket, if it is not bound.
func (s *udpSocket) needPort(t *turn) api.Errno {
	if s.bound {
		return api.OK
	}
	return s.pick(t, api.Any)
}

func (s *udpSocket) listen(*turn, api.Call) (api.Return, api.Errno) {
	return api.Return{}, api.ErrOpNotSu
}

func (s *udpSocket) accept(*turn, api.Call) (api.Return, api.Errno) {
	return api.Return{}, api.ErrOpNotSu
}

func (s *udpSocket) shut(*turn, api.Call) (api.Return, api.Errno) {
	return api.Return{}, api.ErrOpNotSu
}

func (s *udpSocket) connect(c api.Call) work {
	return func(t *turn) (api.Return, api.Errno) {
		if err := mayReach(c); err != api.OK {
			return api.Return{}, err
		}
		if err := s.needPort(t); err != api.OK {
			return api.Return{}, err
		}
		if err := t.host.Connect(s.fd, c.Addr, c.Port); err != api.OK {
			return api.Return{}, err
		}
		s.to, s.toPort = c.Addr, c.Port
		return api.Return{}, api.OK
	}
}

func (s *udpSocket) send(c api.Call) work {
	return func(t *turn) (api.Return, api.Errno) {
		if s.toPort == 0 {
			return api.Return{}, api.ErrDest
		}
		return s.sendDatagram(t, s.to, s.toPort, c.Data)
	}
}

func (s *udpSocket) sendTo(t *turn, c api.Call) (api.Return, api.Errno) {
	if err := mayReach(c); err != api.OK {
		return api.Return{}, err
	}
	if err := s.needPort(t); err != api.OK {
		return api.Return{}, err
	}
	return s.sendDatagram(t, c.Addr, c.Port, c.Data)
}

// wrong is the pending error, which is removed by this.
func (s *udpSocket) wrong(t *turn) api.Errno {
	if _, wrong := t.host.Waits(s.fd); !wrong {
		return api.OK
	}
	_, err := t.host.Recv(s.fd)
	return err
}

// sendDatagram sends a datagram.
func (s *udpSocket) sendDatagram(t *turn, to api.Addr, port int, data []byte) (api.Return, api.Errno) {
	if err := s.wrong(t); err != api.OK {
		return api.Return{}, err
	}
	frames, err := t.host.Send(api.Datagram{FromPort: s.port, To: to, ToPort: port, Data: data}, t.now)
	if err != api.OK {
		return api.Return{}, err
	}
	t.frames = append(t.frames, frames...)
	return api.Return{N: len(data)}, api.OK
}

func (s *udpSocket) recv(t *turn, c api.Call) (api.Return, api.Errno) {
	if c.N < 1 {
		return api.Return{}, api.ErrInval
	}
	d, err := t.host.Recv(s.fd)
	if err == api.ErrAgain {
		return api.Return{}, wait
	}
	if err != api.OK {
		return api.Return{}, err
	}
	data := d.Data[:min(len(d.Data), c.N)]
	return api.Return{N: len(data), Addr: d.From, Port: d.FromPort, Data: data}, api.OK
}

func (s *udpSocket) recvFrom(t *turn, c api.Call) (api.Return, api.Errno) { return s.recv(t, c) }

func (s *udpSocket) poll(t *turn, c api.Call) (api.Return, api.Errno) {
	n, wrong := t.host.Waits(s.fd)
	return events(c.N, n > 0 || wrong, true, false)
}

func (s *udpSocket) peer(*turn, api.Call) (api.Return, api.Errno) {
	if s.toPort == 0 {
		return api.Return{}, api.ErrNotConn
	}
	return api.Return{Addr: s.to, Port: s.toPort}, api.OK
}

func (s *udpSocket) discard(t *turn) { t.host.Free(s.fd) }

func (s *udpSocket) holds(api.Addr, int) bool { return false }
