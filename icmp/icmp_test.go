package icmp

import (
	"bytes"
	"math"
	"testing"

	"wharf/api"
	"wharf/ipv4"
	"wharf/octet"
)

func equal(a, b api.ICMP) bool {
	return a.Type == b.Type && a.Code == b.Code && a.Rest == b.Rest && bytes.Equal(a.Data, b.Data)
}

func TestP9_1Messages(t *testing.T) {
	b, err := Encode(api.ICMP{Type: api.Echo, Rest: 0x00010002, Data: []byte{0xab}})
	if err != api.OK || !bytes.Equal(b, []byte{8, 0, 0x4c, 0xfc, 0, 1, 0, 2, 0xab}) {
		t.Errorf("% x, %v", b, err)
	}
	long := make([]byte, 65508)
	for i, c := range []struct {
		m    api.ICMP
		want api.Errno
	}{
		{api.ICMP{Type: 256, Data: long}, api.ErrArg},
		{api.ICMP{Type: -1}, api.ErrArg},
		{api.ICMP{Code: 256}, api.ErrArg},
		{api.ICMP{Code: -1}, api.ErrArg},
		{api.ICMP{Type: 255, Code: 255, Data: long}, api.ErrLong},
		{api.ICMP{Type: 255, Code: 255, Data: long[:65507]}, api.OK},
	} {
		b, err := Encode(c.m)
		if err != c.want || err != api.OK && len(b) != 0 {
			t.Errorf("%d: %v", i, err)
		}
	}
	if m, err := Decode(b); err != api.OK || !equal(m, api.ICMP{Type: 8, Rest: 0x00010002, Data: []byte{0xab}}) {
		t.Error(m, err)
	}
	if m, err := Decode(b[:7]); err != api.ErrShort || !equal(m, api.ICMP{}) {
		t.Error(m, err)
	}
	for i := range b {
		x := bytes.Clone(b)
		x[i] ^= 4
		if m, err := Decode(x); err != api.ErrSum || !equal(m, api.ICMP{}) {
			t.Error(i, m, err)
		}
	}
	if m, err := Decode([]byte{0, 0, 255, 255, 0, 0, 0, 0}); err != api.OK || !equal(m, api.ICMP{}) {
		t.Error(m, err)
	}
}

func TestP9_2May(t *testing.T) {
	good := api.Packet{Proto: api.ProtoUDP, From: 0x0a000001, To: 0x0a000002}
	if !May(good) {
		t.Error("not of an ordinary packet")
	}
	with := func(change func(p *api.Packet)) api.Packet {
		p := good
		change(&p)
		return p
	}
	for kind := range 256 {
		p := with(func(p *api.Packet) { p.Proto, p.Data = api.ProtoICMP, []byte{byte(kind)} })
		bad := kind == 3 || kind == 4 || kind == 5 || kind == 11 || kind == 12
		if May(p) == bad {
			t.Error("type", kind)
		}
		p.Proto = api.ProtoUDP
		if !May(p) {
			t.Error("type", kind, "of UDP")
		}
	}
	for i, p := range []api.Packet{
		with(func(p *api.Packet) { p.Proto = api.ProtoICMP }),
		with(func(p *api.Packet) { p.Offset = 8 }),
		with(func(p *api.Packet) { p.Offset = 1 }),
		with(func(p *api.Packet) { p.To = api.Group }),
		with(func(p *api.Packet) { p.To = api.Broadcast }),
		with(func(p *api.Packet) { p.From = 0 }),
		with(func(p *api.Packet) { p.From = api.Group }),
		with(func(p *api.Packet) { p.From = api.Broadcast }),
		with(func(p *api.Packet) { p.From = 127 << 24 }),
		with(func(p *api.Packet) { p.From = 127<<24 | 0xffffff }),
	} {
		if May(p) {
			t.Error(i)
		}
	}
	for i, p := range []api.Packet{
		with(func(p *api.Packet) { p.More = true }),
		with(func(p *api.Packet) { p.To = api.Group - 1 }),
		with(func(p *api.Packet) { p.To = 0 }),
		with(func(p *api.Packet) { p.From = api.Group - 1 }),
		with(func(p *api.Packet) { p.From = 128 << 24 }),
		with(func(p *api.Packet) { p.From = 1 }),
	} {
		if !May(p) {
			t.Error(i)
		}
	}
}

func TestP9_3Quote(t *testing.T) {
	for _, n := range []int{0, 1, 7, 8, 9, 1000} {
		p := api.Packet{ID: 5, Life: 3, Proto: 17, From: 1, To: 2, Options: []byte{1}, Data: bytes.Repeat([]byte{9}, n)}
		whole, _ := ipv4.Encode(p)
		q := Quote(p)
		if !bytes.Equal(q, whole[:24+min(n, 8)]) || octet.Sum(q[:24]) != 0 {
			t.Errorf("%d: % x", n, q)
		}
	}
	if len(Quote(api.Packet{ID: -1})) != 0 || len(Quote(api.Packet{Data: make([]byte, 65516)})) != 0 {
		t.Error("a quote of what is no packet")
	}
}

func TestP9_4Flow(t *testing.T) {
	p := api.Packet{Proto: api.ProtoTCP, From: 0xfffefdfc, To: 2, Options: []byte{1, 1, 1, 1, 1}, Data: []byte{1, 2, 3, 4, 5}, Whole: true, More: true}
	b, _ := ipv4.Encode(p)
	want := api.Flow{Proto: 6, From: 0xfffefdfc, FromPort: 258, To: 2, ToPort: 772}
	if f, err := Flow(b); err != api.OK || f != want {
		t.Error(f, err)
	}
	b[10] ^= 1
	if f, err := Flow(b[:32]); err != api.OK || f != want {
		t.Error("the sum is checked:", f, err)
	}
	bare := want
	bare.FromPort, bare.ToPort = 0, 0
	if f, err := Flow(b[:31]); err != api.OK || f != bare {
		t.Error(f, err)
	}
	for _, proto := range []int{1, 2, 0, 255} {
		q := p
		q.Proto = proto
		c, _ := ipv4.Encode(q)
		if f, err := Flow(c); err != api.OK || f.FromPort != 0 || f.ToPort != 0 || f.Proto != proto {
			t.Error(f, err)
		}
	}
	q := p
	q.Proto, q.Offset = api.ProtoUDP, 8
	c, _ := ipv4.Encode(q)
	if f, err := Flow(c); err != api.OK || f.FromPort != 0 || f.ToPort != 0 {
		t.Error(f, err)
	}
	set := func(at int, v byte) []byte {
		x := bytes.Clone(b)
		x[at] = v
		return x
	}
	for i, c := range []struct {
		b    []byte
		want api.Errno
	}{
		{nil, api.ErrShort},
		{b[:19], api.ErrShort},
		{set(0, 0x55)[:19], api.ErrShort},
		{set(0, 0x55), api.ErrForm},
		{set(0, 0x44), api.ErrForm},
		{b[:27], api.ErrShort},
		{set(0, 0x4f), api.ErrShort},
	} {
		if f, err := Flow(c.b); err != c.want || f != (api.Flow{}) {
			t.Errorf("%d: %v, %v", i, f, err)
		}
	}
}

func TestP9_5Bucket(t *testing.T) {
	for _, c := range [][2]int{{0, 1}, {1, 0}, {-1, 5}, {5, -1}, {1<<20 + 1, 1}, {1, 1<<20 + 1}} {
		if b, err := NewBucket(c[0], c[1]); err != api.ErrArg || b != nil {
			t.Error(c, err)
		}
	}
	if _, err := NewBucket(1<<20, 1<<20); err != api.OK {
		t.Error(err)
	}
	if _, err := NewBucket(1, 1); err != api.OK {
		t.Error(err)
	}
	b, _ := NewBucket(2, 10)
	for i, c := range []struct {
		now  int
		want bool
	}{{1, true}, {1, true}, {9, false}, {10, true}, {35, true}, {35, true}, {35, false}, {0, false}, {39, false}, {40, true}, {5, false}, {-9, false}, {49, false}, {50, true}} {
		if b.Take(c.now) != c.want {
			t.Errorf("%d: at %d", i, c.now)
		}
	}
	if !b.Take(math.MaxInt) || !b.Take(math.MaxInt) || b.Take(math.MaxInt) || b.Take(math.MinInt) {
		t.Error("great ticks")
	}
	one, _ := NewBucket(3, 1)
	for range 3 {
		if !one.Take(math.MinInt) {
			t.Error("it is not full at first")
		}
	}
	if one.Take(0) || !one.Take(1) || one.Take(1) {
		t.Error("one for each tick")
	}
}

func TestP9_6SoManyAtMost(t *testing.T) {
	x := uint32(1)
	draw := func(n int) int {
		x = x*1664525 + 1013904223
		return int(x>>8) % n
	}
	for range 50 {
		most, every := 1+draw(5), 1+draw(20)
		b, _ := NewBucket(most, every)
		now := 0
		var taken []int
		for range 300 {
			now += draw(every)
			for range draw(4) {
				if b.Take(now) {
					taken = append(taken, now)
				}
			}
		}
		for i := range taken {
			for j := i; j < len(taken); j++ {
				if from := max(taken[i]-1, 0); j-i+1 > most+taken[j]/every-from/every {
					t.Fatal("too many from", from, "to", taken[j])
				}
			}
		}
	}
}

func TestP9_7RoundTrips(t *testing.T) {
	for n := range 200 {
		m := api.ICMP{Type: n, Code: 255 - n, Rest: uint32(n) * 77777777, Data: bytes.Repeat([]byte{byte(n)}, n)}
		b, _ := Encode(m)
		if got, err := Decode(b); err != api.OK || !equal(got, m) || octet.Sum(b) != 0 {
			t.Error(n, err)
		}
		p := api.Packet{Proto: 17, From: api.Addr(n), To: 9, Options: make([]byte, n%40), Data: []byte{byte(n), 1, 2, byte(n), 7, 7, 7, 7, 7}}
		want := api.Flow{Proto: 17, From: api.Addr(n), FromPort: n<<8 | 1, To: 9, ToPort: 512 | n}
		if f, err := Flow(Quote(p)); err != api.OK || f != want {
			t.Error(f, err)
		}
	}
	data := append(make([]byte, 0, 9), 1, 2)
	b, _ := Encode(api.ICMP{Data: data})
	b[8] = 9
	m, _ := Decode([]byte{0, 0, 0xff - 1, 0xff - 2, 0, 0, 0, 0, 1, 2})
	m.Data[0] = 7
	if data[0] != 1 || data[:3][2] != 0 {
		t.Error("memory is shared")
	}
	wire := []byte{0, 0, 0xfe, 0xfd, 0, 0, 0, 0, 1, 2}
	m, _ = Decode(wire)
	m.Data[0] = 7
	if wire[8] != 1 {
		t.Error("memory is shared")
	}
	var none *Bucket
	var zero Bucket
	if none.Take(5) || zero.Take(5) {
		t.Error("a nil or zero Bucket")
	}
}
