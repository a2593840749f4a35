package sock

import "wharf/api"

// socket is one socket. Where a method answers wait, the call waits, or it is ErrAgain.
type socket interface {
	shared() *common
	bind(t *turn, c api.Call) (api.Return, api.Errno)
	listen(t *turn, c api.Call) (api.Return, api.Errno)
	accept(t *turn, c api.Call) (api.Return, api.Errno)
	connect(c api.Call) work
	send(c api.Call) work
	recv(t *turn, c api.Call) (api.Return, api.Errno)
	sendTo(t *turn, c api.Call) (api.Return, api.Errno)
	recvFrom(t *turn, c api.Call) (api.Return, api.Errno)
	shut(t *turn, c api.Call) (api.Return, api.Errno)
	poll(t *turn, c api.Call) (api.Return, api.Errno)
	peer(t *turn, c api.Call) (api.Return, api.Errno)

	// discard gives back what the socket has of the host.
	discard(t *turn)
	// holds tells whether a TCP socket may not be bound to this address and port because of this one.
	holds(a api.Addr, port int) bool
}

// common is what sockets of both kinds have.
type common struct {
	fd      int
	closed  bool
	bound   bool
	addr    api.Addr
	port    int
	options [api.OptKeep + 1]int
}

func (s *common) shared() *common { return s }

// noBlock tells whether calls do not wait.
func (s *common) noBlock() bool { return s.options[api.OptNoBlock] != 0 }

// bindTo makes a socket bound.
func (s *common) bindTo(a api.Addr, port int) { s.bound, s.addr, s.port = true, a, port }

// mayBind is the first error of a CallBind.
func (s *common) mayBind(t *turn, c api.Call) api.Errno {
	switch {
	case s.bound || c.Port < 0 || c.Port > mostPort:
		return api.ErrInval
	case c.Addr != api.Any && c.Addr != t.host.Addr():
		return api.ErrAddr
	}
	return api.OK
}

// mayReach is the first error of a call with an address to reach.
func mayReach(c api.Call) api.Errno {
	switch {
	case c.Port < 1 || c.Port > mostPort:
		return api.ErrInval
	case c.Addr == 0:
		return api.ErrDest
	}
	return api.OK
}

// option sets an option.
func (s *common) option(_ *turn, c api.Call) (api.Return, api.Errno) {
	most := 1
	if c.N == api.OptKeep {
		most = api.MaxTick
	}
	if c.N < api.OptNoBlock || c.N > api.OptKeep || c.Port < 0 || c.Port > most {
		return api.Return{}, api.ErrInval
	}
	s.options[c.N] = c.Port
	return api.Return{}, api.OK
}

// name tells what a socket is bound to.
func (s *common) name(*turn, api.Call) (api.Return, api.Errno) {
	if !s.bound {
		return api.Return{}, api.ErrInval
	}
	return api.Return{Addr: s.addr, Port: s.port}, api.OK
}

// events are those of a poll that hold.
func events(asked int, read, write, ended bool) (api.Return, api.Errno) {
	n := 0
	for _, e := range [...]struct {
		event int
		holds bool
	}{{api.CanRead, read}, {api.CanWrite, write}, {api.HasEnded, ended}} {
		if e.holds {
			n |= e.event & asked
		}
	}
	return api.Return{N: n}, api.OK
}
