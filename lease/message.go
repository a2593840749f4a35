package lease

import (
	"bytes"

	"wharf/api"
	"wharf/octet"
)

const (
	headLength    = 240 // up to the first option
	cookieAt      = 236
	idAt          = 4
	yoursAt       = 16
	clientAt      = 28
	asks          = 1
	answers       = 2
	ethernet      = 1
	macLength     = 6
	mostTime      = 1<<31 - 1
	addrLength    = 4
	optionMask    = 1
	optionRouter  = 3
	optionName    = 6
	optionAsked   = 50
	optionTime    = 51
	optionType    = 53
	optionServer  = 54
	optionNothing = 0
	optionsEnd    = 255
)

// cookie is what stands before the options.
func cookie() []byte { return []byte{0x63, 0x82, 0x53, 0x63} }

// isType tells whether a number is the type of a message.
func isType(n int) bool { return n >= api.Discover && n <= api.Release }

// Encode is a message as bytes.
func Encode(m api.Lease) ([]byte, api.Errno) {
	if m.Op != asks && m.Op != answers || !isType(m.Type) || m.Time < 0 || m.Time > mostTime {
		return nil, api.ErrArg
	}
	var w octet.Writer
	w.Byte(m.Op)
	w.Byte(ethernet)
	w.Byte(macLength)
	w.Byte(0)
	w.Four(m.ID)
	w.Raw(make([]byte, 8))
	w.Four(uint32(m.Yours))
	w.Raw(make([]byte, 8))
	w.Raw(m.Client[:])
	w.Raw(make([]byte, 10+192))
	w.Raw(cookie())
	option(&w, optionType, byte(m.Type))
	for _, o := range [...]struct {
		kind  int
		value uint32
	}{
		{optionServer, uint32(m.Server)},
		{optionAsked, uint32(m.Asked)},
		{optionTime, uint32(m.Time)},
		{optionMask, uint32(m.Mask)},
		{optionRouter, uint32(m.Router)},
		{optionName, uint32(m.Resolver)},
	} {
		if v := o.value; v != 0 {
			option(&w, o.kind, byte(v>>24), byte(v>>16), byte(v>>8), byte(v))
		}
	}
	w.Byte(optionsEnd)
	return w.Bytes(), api.OK
}

// option writes one option.
func option(w *octet.Writer, kind int, value ...byte) {
	w.Byte(kind)
	w.Byte(len(value))
	w.Raw(value)
}

// Decode is a message out of bytes.
func Decode(b []byte) (api.Lease, api.Errno) {
	if len(b) < headLength {
		return api.Lease{}, api.ErrShort
	}
	op := int(b[0])
	if op != asks && op != answers || b[1] != ethernet || b[2] != macLength || !bytes.Equal(b[cookieAt:headLength], cookie()) {
		return api.Lease{}, api.ErrForm
	}
	m := api.Lease{Op: op, ID: four(b[idAt:]), Yours: api.Addr(four(b[yoursAt:]))}
	copy(m.Client[:], b[clientAt:])
	if err := readOptions(&m, b[headLength:]); err != api.OK {
		return api.Lease{}, err
	}
	if !isType(m.Type) {
		return api.Lease{}, api.ErrForm
	}
	return m, api.OK
}

// four is the number that the first four bytes form.
func four(b []byte) uint32 { return octet.NewReader(b[:addrLength]).Four() }

// readOptions reads all options into a message.
func readOptions(m *api.Lease, b []byte) api.Errno {
options:
	for at := 0; at < len(b); {
		switch b[at] {
		case optionsEnd:
			break options
		case optionNothing:
			at++
			continue options
		}
		if at+1 >= len(b) || at+2+int(b[at+1]) > len(b) {
			return api.ErrShort
		}
		end := at + 2 + int(b[at+1])
		readOption(m, int(b[at]), b[at+2:end])
		at = end
	}
	return api.OK
}

// readOption reads one option, if it is one that is used.
func readOption(m *api.Lease, kind int, value []byte) {
	if kind == optionType && len(value) == 1 {
		m.Type = int(value[0])
	}
	if len(value) < addrLength || len(value) > addrLength && kind != optionRouter && kind != optionName {
		return
	}
	v := four(value)
	switch kind {
	case optionServer:
		m.Server = api.Addr(v)
	case optionAsked:
		m.Asked = api.Addr(v)
	case optionTime:
		m.Time = min(int(v), mostTime)
	case optionMask:
		m.Mask = api.Addr(v)
	case optionRouter:
		m.Router = api.Addr(v)
	case optionName:
		m.Resolver = api.Addr(v)
	}
}
