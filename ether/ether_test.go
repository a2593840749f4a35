package ether

import (
	"bytes"
	"strings"
	"testing"

	"wharf/api"
)

var (
	all = api.MAC{0xff, 0xff, 0xff, 0xff, 0xff, 0xff}
	one = api.MAC{2, 0, 0, 0, 0, 1}
)

func TestP4_1Encode(t *testing.T) {
	b, err := Encode(api.Frame{To: all, From: one, Kind: 0x0806, Data: []byte{1}})
	want := append([]byte{255, 255, 255, 255, 255, 255, 2, 0, 0, 0, 0, 1, 8, 6, 1}, make([]byte, 45)...)
	if err != api.OK || !bytes.Equal(b, want) {
		t.Errorf("% x, %v", b, err)
	}
	for n, length := range map[int]int{0: 60, 45: 60, 46: 60, 47: 61, 1499: 1513, 1500: 1514} {
		b, err := Encode(api.Frame{Kind: 0x0600, Data: bytes.Repeat([]byte{7}, n)})
		if err != api.OK || len(b) != length || bytes.Count(b, []byte{7}) != n {
			t.Errorf("%d bytes: %d, %v", n, len(b), err)
		}
	}
	long := make([]byte, 1501)
	for _, c := range []struct {
		kind int
		data []byte
		want api.Errno
	}{{0x05ff, nil, api.ErrArg}, {-1, nil, api.ErrArg}, {0x10000, long, api.ErrArg}, {0xffff, long, api.ErrLong}, {0xffff, nil, api.OK}} {
		b, err := Encode(api.Frame{Kind: c.kind, Data: c.data})
		if err != c.want || err != api.OK && len(b) != 0 {
			t.Errorf("kind %x: %v", c.kind, err)
		}
	}
}

func TestP4_2Decode(t *testing.T) {
	head := []byte{255, 255, 255, 255, 255, 255, 2, 0, 0, 0, 0, 1, 6, 0}
	f, err := Decode(head)
	if err != api.OK || f.To != all || f.From != one || f.Kind != 0x0600 || len(f.Data) != 0 {
		t.Error(f, err)
	}
	f, err = Decode(append(bytes.Clone(head), 1, 2, 3))
	if err != api.OK || !bytes.Equal(f.Data, []byte{1, 2, 3}) {
		t.Error(f, err)
	}
	low := bytes.Clone(head)
	low[12], low[13] = 5, 0xff
	for _, c := range []struct {
		b    []byte
		want api.Errno
	}{
		{nil, api.ErrShort}, {head[:13], api.ErrShort}, {low[:13], api.ErrShort}, {low, api.ErrForm},
		{append(bytes.Clone(head), make([]byte, 1500)...), api.OK},
		{append(bytes.Clone(head), make([]byte, 1501)...), api.ErrLong},
		{append(bytes.Clone(low), make([]byte, 1501)...), api.ErrLong},
	} {
		f, err := Decode(c.b)
		if err != c.want || err != api.OK && (f.Kind != 0 || f.Data != nil || f.From != api.MAC{}) {
			t.Errorf("%d bytes: %v", len(c.b), err)
		}
	}
}

func TestP4_3TextAndParse(t *testing.T) {
	if s := Text(api.MAC{2, 0, 0, 0, 0, 0x0a}); s != "02:00:00:00:00:0a" {
		t.Error(s)
	}
	if s := Text(api.MAC{0xff, 0xab, 0xcd, 0xef, 0x12, 0x90}); s != "ff:ab:cd:ef:12:90" {
		t.Error(s)
	}
	for _, s := range []string{"fF:Ab:cD:ef:12:90", "FF:AB:CD:EF:12:90", "ff:ab:cd:ef:12:90"} {
		if m, err := Parse(s); err != api.OK || m != (api.MAC{0xff, 0xab, 0xcd, 0xef, 0x12, 0x90}) {
			t.Error(s, m, err)
		}
	}
	for _, s := range []string{"", "2:0:0:0:0:a", "02:00:00:00:00:0", "02:00:00:00:00:0a:", "02:00:00:00:00:0g", "02-00-00-00-00-0a", "02:00:00:00:00::a", "0200:00:00:00:000", " 2:00:00:00:00:0a", "+2:00:00:00:00:0a", "02:00:00:00:00:0a\n", "02:00:00:00:00:0\xff", "@@:00:00:00:00:00", "0[:00:00:00:00:00", strings.Repeat("a", 1<<20)} {
		if m, err := Parse(s); err != api.ErrForm || m != (api.MAC{}) {
			t.Errorf("%.30q: %v, %v", s, m, err)
		}
	}
}

func TestP4_4Groups(t *testing.T) {
	if m := OfGroup(239<<24 | 129<<16 | 2<<8 | 3); m != (api.MAC{1, 0, 0x5e, 1, 2, 3}) {
		t.Error(m)
	}
	if m := OfGroup(0xe07fffff); m != (api.MAC{1, 0, 0x5e, 0x7f, 0xff, 0xff}) {
		t.Error(m)
	}
	groups := []api.Addr{0xe0000001, 0xe0800005}
	for _, to := range []api.MAC{one, all, {1, 0, 0x5e, 0, 0, 1}, {1, 0, 0x5e, 0, 0, 5}} {
		if !Takes(one, groups, to) {
			t.Error("not taken:", to)
		}
	}
	for _, to := range []api.MAC{{}, {2, 0, 0, 0, 0, 2}, {1, 0, 0x5e, 0, 0, 2}, {1, 0, 0x5e, 0x80, 0, 5}, {255, 255, 255, 255, 255, 254}} {
		if Takes(one, groups, to) {
			t.Error("taken:", to)
		}
	}
	if Takes(one, nil, api.MAC{1, 0, 0x5e, 0, 0, 1}) {
		t.Error("a group of nobody is taken")
	}
}

func TestP4_5RoundTrips(t *testing.T) {
	for n := 0; n <= 1500; n += 25 {
		f := api.Frame{To: api.MAC{byte(n), 1, 2, 3, 4, 5}, From: one, Kind: 0x0600 + n, Data: bytes.Repeat([]byte{byte(n)}, n)}
		b, _ := Encode(f)
		g, err := Decode(b)
		want := append(bytes.Clone(f.Data), make([]byte, max(0, 46-n))...)
		if err != api.OK || g.To != f.To || g.From != f.From || g.Kind != f.Kind || !bytes.Equal(g.Data, want) {
			t.Errorf("%d bytes", n)
		}
		m := api.MAC{byte(n), byte(n >> 3), byte(255 - n), byte(n * 7), byte(n * 11), byte(n * 13)}
		if back, err := Parse(Text(m)); err != api.OK || back != m {
			t.Error(m, back)
		}
	}
}

func TestP4_6Memory(t *testing.T) {
	data := append(make([]byte, 0, 100), 1, 2, 3)
	b, _ := Encode(api.Frame{Kind: 0x0800, Data: data})
	b[14] = 9
	if data[0] != 1 || data[:4][3] != 0 {
		t.Error("Encode shares memory")
	}
	f, _ := Decode(b)
	f.Data[0] = 50
	if b[14] != 9 {
		t.Error("Decode shares memory")
	}
}
