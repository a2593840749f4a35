package ipv4

import (
	"bytes"
	"strings"
	"testing"

	"wharf/api"
	"wharf/octet"
)

// equal holds two packets against each other.
func equal(a, b api.Packet) bool {
	x, y := a, b
	x.Options, x.Data, y.Options, y.Data = nil, nil, nil, nil
	return x.Service == y.Service && x.ID == y.ID && x.Whole == y.Whole && x.More == y.More && x.Offset == y.Offset && x.Life == y.Life && x.Proto == y.Proto && x.From == y.From && x.To == y.To && bytes.Equal(a.Options, b.Options) && bytes.Equal(a.Data, b.Data)
}

// resum makes the sum of a header right again.
func resum(b []byte) []byte {
	b = bytes.Clone(b)
	head := int(b[0]&15) * 4
	b[10], b[11] = 0, 0
	s := octet.Sum(b[:head])
	b[10], b[11] = byte(s>>8), byte(s)
	return b
}

func TestP6_1Encode(t *testing.T) {
	b, err := Encode(api.Packet{ID: 1, Whole: true, Life: 64, Proto: 17, From: 0x0a000001, To: 0x0a000002, Data: []byte{0xab}})
	want := []byte{0x45, 0, 0, 0x15, 0, 1, 0x40, 0, 0x40, 0x11, 0x26, 0xd5, 10, 0, 0, 1, 10, 0, 0, 2, 0xab}
	if err != api.OK || !bytes.Equal(b, want) {
		t.Errorf("% x, %v", b, err)
	}
	b, err = Encode(api.Packet{Service: 255, ID: 65535, More: true, Offset: 64, Life: 1, Proto: 255, Options: []byte{7, 3, 9, 1, 0}, Data: []byte{5}})
	if err != api.OK || len(b) != 29 || b[0] != 0x47 || b[1] != 255 || b[6] != 0x20 || b[7] != 8 || octet.Sum(b[:28]) != 0 || !bytes.Equal(b[20:], []byte{7, 3, 9, 1, 0, 0, 0, 0, 5}) {
		t.Errorf("% x, %v", b, err)
	}
}

func TestP6_1Errors(t *testing.T) {
	bad := []byte{7}
	long := make([]byte, 65536)
	for i, c := range []struct {
		p    api.Packet
		want api.Errno
	}{
		{api.Packet{Service: 256, Options: bad}, api.ErrArg},
		{api.Packet{Service: -1}, api.ErrArg},
		{api.Packet{Life: 256}, api.ErrArg},
		{api.Packet{Life: -1}, api.ErrArg},
		{api.Packet{Proto: 256}, api.ErrArg},
		{api.Packet{Proto: -1}, api.ErrArg},
		{api.Packet{ID: 65536}, api.ErrArg},
		{api.Packet{ID: -1}, api.ErrArg},
		{api.Packet{Offset: 65536}, api.ErrArg},
		{api.Packet{Offset: -8}, api.ErrArg},
		{api.Packet{Offset: 12, Data: long}, api.ErrArg},
		{api.Packet{Options: bad, Data: long}, api.ErrForm},
		{api.Packet{Options: make([]byte, 41)}, api.ErrForm},
		{api.Packet{Options: []byte{7, 1}}, api.ErrForm},
		{api.Packet{Options: []byte{7, 0}}, api.ErrForm},
		{api.Packet{Options: []byte{7, 4, 0}}, api.ErrForm},
		{api.Packet{Options: []byte{0, 0, 1}}, api.ErrForm},
		{api.Packet{Options: []byte{1, 1, 130}}, api.ErrForm},
		{api.Packet{Options: make([]byte, 40)}, api.OK},
		{api.Packet{Options: []byte{1, 7, 2, 130, 3, 5, 0, 0}}, api.OK},
		{api.Packet{Options: []byte{1, 1, 1}}, api.OK},
		{api.Packet{Data: long[:65515]}, api.OK},
		{api.Packet{Data: long[:65516]}, api.ErrLong},
		{api.Packet{Options: []byte{1}, Data: long[:65511]}, api.OK},
		{api.Packet{Options: []byte{1}, Data: long[:65512]}, api.ErrLong},
		{api.Packet{Offset: 65504, Data: long[:11]}, api.OK},
		{api.Packet{Offset: 65504, Data: long[:12]}, api.ErrLong},
		{api.Packet{Offset: 65528}, api.ErrLong},
	} {
		b, err := Encode(c.p)
		if err != c.want || err != api.OK && len(b) != 0 {
			t.Errorf("%d: %v, want %v", i, err, c.want)
		}
	}
}

func TestP6_2Decode(t *testing.T) {
	p := api.Packet{Service: 3, ID: 500, Whole: true, More: true, Offset: 800, Life: 9, Proto: 6, From: 0xfffefdfc, To: 0x01020304, Options: []byte{7, 4, 1, 2}, Data: []byte{1, 2, 3}}
	b, _ := Encode(p)
	if q, err := Decode(append(bytes.Clone(b), 9, 9)); err != api.OK || !equal(p, q) {
		t.Error(q, err)
	}
	set := func(at int, v byte) []byte {
		x := bytes.Clone(b)
		x[at] = v
		return x
	}
	for i, c := range []struct {
		b    []byte
		want api.Errno
	}{
		{nil, api.ErrShort},
		{b[:19], api.ErrShort},
		{set(0, 0x56), api.ErrForm},
		{set(0, 0x44), api.ErrForm},
		{set(0, 0x54)[:19], api.ErrShort},
		{b[:23], api.ErrShort},
		{set(0, 0x4f), api.ErrShort},
		{set(3, 23), api.ErrForm},
		{set(3, 28), api.ErrShort},
		{b[:26], api.ErrShort},
		{set(10, b[10]^1), api.ErrSum},
		{set(6, b[6]|0x80), api.ErrSum},
		{resum(set(6, b[6]|0x80)), api.ErrForm},
		{resum(set(21, 5)), api.ErrForm},
		{set(21, 5), api.ErrSum},
		{resum(set(3, 24)), api.OK},
	} {
		q, err := Decode(c.b)
		if err != c.want || err != api.OK && !equal(q, api.Packet{}) {
			t.Errorf("%d: %v, want %v", i, err, c.want)
		}
	}
	for _, options := range [][]byte{nil, {1, 1, 1, 1}} {
		bare, _ := Encode(api.Packet{Proto: 3, Options: options})
		if q, err := Decode(bare); err != api.OK || q.Proto != 3 || len(q.Data) != 0 {
			t.Error(q, err)
		}
	}
	far, _ := Encode(api.Packet{Offset: 65504, Data: make([]byte, 11)})
	if _, err := Decode(far); err != api.OK {
		t.Error(err)
	}
	far[3]++
	far = resum(append(far, 0))
	if _, err := Decode(far); err != api.ErrLong {
		t.Error(err)
	}
}

func TestP6_3Text(t *testing.T) {
	for a, s := range map[api.Addr]string{0x0a000001: "10.0.0.1", 0: "0.0.0.0", 0xffffffff: "255.255.255.255", 0x01020a64: "1.2.10.100", 0x0963c7f9: "9.99.199.249"} {
		if Text(a) != s {
			t.Error(Text(a), s)
		}
		if b, err := Parse(s); err != api.OK || b != a {
			t.Error(s, b, err)
		}
	}
	for _, s := range []string{"", "1.2.3", "1.2.3.4.5", "10.0.0.01", "00.0.0.0", "1.2.3.256", "1.2.3.999", "1.2.3.", ".1.2.3", "1..2.3", "1.2.3.4 ", " 1.2.3.4", "1.2.3.+4", "1.2.3.-4", "1.2.3.a", "1.2.3.1000", "1.2.3.4.", "1,2,3,4", "1.2.3.\xff", "0x1.2.3.4", strings.Repeat("1", 1<<20), strings.Repeat(".", 1<<20)} {
		if a, err := Parse(s); err != api.ErrForm || a != 0 {
			t.Errorf("%.20q: %v, %v", s, a, err)
		}
	}
}

func TestP6_4RoundTrips(t *testing.T) {
	x := uint32(11)
	draw := func(n int) int {
		x = x*1664525 + 1013904223
		return int(x>>8) % n
	}
	for range 500 {
		p := api.Packet{Service: draw(256), ID: draw(65536), Whole: draw(2) == 0, More: draw(2) == 0, Offset: draw(8000) * 8, Life: draw(256), Proto: draw(256), From: api.Addr(draw(1<<24) << 8), To: api.Addr(draw(1 << 24))}
		for range draw(5) {
			n := draw(6) + 2
			o := make([]byte, n)
			o[0], o[1] = byte(draw(254)+2), byte(n)
			p.Options = append(p.Options, o...)
		}
		p.Data = bytes.Repeat([]byte{byte(draw(256))}, draw(1400))
		b, err := Encode(p)
		if err != api.OK {
			t.Fatal(err, p)
		}
		q, err := Decode(append(bytes.Clone(b), make([]byte, draw(9))...))
		want := p
		want.Options = append(bytes.Clone(p.Options), make([]byte, -len(p.Options)&3)...)
		if err != api.OK || !equal(q, want) {
			t.Fatal(err, q, want)
		}
		if c, err := Encode(q); err != api.OK || !bytes.Equal(c, b) {
			t.Fatal("not the same bytes again")
		}
	}
}

func TestP6_5OneWrongByte(t *testing.T) {
	b, _ := Encode(api.Packet{Service: 3, ID: 500, Life: 9, Proto: 6, From: 0xfffefdfc, To: 0x01020304, Options: []byte{7, 4, 1, 2}, Data: make([]byte, 300)})
	for i := 1; i < 24; i++ {
		for v := range 256 {
			x := bytes.Clone(b)
			x[i] = byte(v)
			_, err := Decode(x)
			if x[i] != b[i] && err != api.ErrSum && !(err == api.ErrForm && i < 4) && !(err == api.ErrShort && i < 4) {
				t.Fatalf("byte %d as %d: %v", i, v, err)
			}
		}
	}
}

func TestP6_6Memory(t *testing.T) {
	options := append(make([]byte, 0, 9), 7, 2)
	data := append(make([]byte, 0, 9), 1)
	b, _ := Encode(api.Packet{Options: options, Data: data})
	b[20], b[24] = 99, 99
	if options[0] != 7 || data[0] != 1 || options[:4][2] != 0 || data[:2][1] != 0 {
		t.Error("Encode shares memory")
	}
	b, _ = Encode(api.Packet{Options: options, Data: data})
	p, _ := Decode(b)
	p.Options[0], p.Data[0] = 8, 8
	_ = append(p.Options, 50)
	if b[20] != 7 || b[24] != 1 || p.Data[0] != 8 {
		t.Error("Decode shares memory")
	}
}
