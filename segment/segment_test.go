package segment

import (
	"bytes"
	"testing"

	"wharf/api"
	"wharf/octet"
)

const (
	a1 = api.Addr(0x0a000001)
	a2 = api.Addr(0x0a000002)
)

func equal(a, b api.Segment) bool {
	x, y := a, b
	x.Data, y.Data = nil, nil
	return x.From == y.From && x.FromPort == y.FromPort && x.To == y.To && x.ToPort == y.ToPort && x.Seq == y.Seq && x.Ack == y.Ack && x.Flags == y.Flags && x.Window == y.Window && x.MSS == y.MSS && x.Scale == y.Scale && bytes.Equal(a.Data, b.Data)
}

// pseudo is the bytes that the checksum is of.
func pseudo(b []byte) []byte {
	return append([]byte{10, 0, 0, 1, 10, 0, 0, 2, 0, 6, byte(len(b) >> 8), byte(len(b))}, b...)
}

// wire is a segment from a1 to a2 with these options and data, its sum right.
func wire(options, data []byte) []byte {
	b := make([]byte, 20)
	b[12] = byte(20+len(options)) / 4 << 4
	b = append(append(b, options...), data...)
	s := octet.Sum(pseudo(b))
	b[16], b[17] = byte(s>>8), byte(s)
	return b
}

func TestP14_1Encode(t *testing.T) {
	b, err := Encode(api.Segment{From: a1, FromPort: 1, To: a2, ToPort: 2, Seq: 1, Flags: api.Syn, Window: 1000, MSS: 1460, Scale: -1})
	if err != api.OK || len(b) != 24 || b[12] != 0x60 || !bytes.Equal(b[20:], []byte{2, 4, 5, 0xb4}) || octet.Sum(pseudo(b)) != 0 {
		t.Errorf("% x, %v", b, err)
	}
	b, err = Encode(api.Segment{From: a1, FromPort: 0x1234, To: a2, ToPort: 0x5678, Seq: 0x01020304, Ack: 0xfffefdfc, Flags: 63, Window: 0xabcd, MSS: 1, Scale: 14, Data: []byte{7}})
	b[16], b[17] = 0, 0
	if err != api.OK || !bytes.Equal(b, []byte{0x12, 0x34, 0x56, 0x78, 1, 2, 3, 4, 0xff, 0xfe, 0xfd, 0xfc, 0x70, 63, 0xab, 0xcd, 0, 0, 0, 0, 2, 4, 0, 1, 1, 3, 3, 14, 7}) {
		t.Errorf("% x, %v", b, err)
	}
	b, err = Encode(api.Segment{Scale: 0})
	if err != api.OK || !bytes.Equal(b[20:], []byte{1, 3, 3, 0}) {
		t.Errorf("% x, %v", b, err)
	}
	if b, err = Encode(api.Segment{Scale: -1}); err != api.OK || len(b) != 20 || b[12] != 0x50 {
		t.Errorf("% x, %v", b, err)
	}
}

func TestP14_1Errors(t *testing.T) {
	long := make([]byte, 65516)
	for i, c := range []struct {
		s    api.Segment
		want api.Errno
	}{
		{api.Segment{FromPort: -1, Data: long}, api.ErrArg},
		{api.Segment{FromPort: 65536}, api.ErrArg},
		{api.Segment{ToPort: -1}, api.ErrArg},
		{api.Segment{ToPort: 65536}, api.ErrArg},
		{api.Segment{Window: -1}, api.ErrArg},
		{api.Segment{Window: 65536}, api.ErrArg},
		{api.Segment{Flags: -1}, api.ErrArg},
		{api.Segment{Flags: 64}, api.ErrArg},
		{api.Segment{MSS: -1}, api.ErrArg},
		{api.Segment{MSS: 65536}, api.ErrArg},
		{api.Segment{Scale: -2}, api.ErrArg},
		{api.Segment{Scale: 15}, api.ErrArg},
		{api.Segment{FromPort: 65535, ToPort: 65535, Window: 65535, MSS: 65535, Flags: 63, Scale: 14}, api.OK},
		{api.Segment{Scale: -1, Data: long[:65495]}, api.OK},
		{api.Segment{Scale: -1, Data: long[:65496]}, api.ErrLong},
		{api.Segment{Scale: 0, Data: long[:65491]}, api.OK},
		{api.Segment{Scale: 0, Data: long[:65492]}, api.ErrLong},
		{api.Segment{Scale: 0, MSS: 1, Data: long[:65487]}, api.OK},
		{api.Segment{Scale: 0, MSS: 1, Data: long[:65488]}, api.ErrLong},
	} {
		b, err := Encode(c.s)
		if err != c.want || err != api.OK && len(b) != 0 {
			t.Errorf("%d: %v, want %v", i, err, c.want)
		}
	}
}

func TestP14_2Options(t *testing.T) {
	for i, c := range []struct {
		options    []byte
		mss, scale int
		want       api.Errno
	}{
		{nil, 0, -1, api.OK},
		{[]byte{1, 1, 1, 0}, 0, -1, api.OK},
		{[]byte{0, 2, 9, 9}, 0, -1, api.OK},
		{[]byte{2, 4, 5, 0xb4}, 1460, -1, api.OK},
		{[]byte{3, 3, 7, 0}, 0, 7, api.OK},
		{[]byte{3, 3, 14, 0}, 0, 14, api.OK},
		{[]byte{3, 3, 15, 1}, 0, 14, api.OK},
		{[]byte{3, 3, 255, 1}, 0, 14, api.OK},
		{[]byte{2, 4, 0, 9, 8, 6, 1, 2, 3, 4, 2, 4, 1, 0, 1, 1}, 256, -1, api.OK},
		{[]byte{3, 3, 7, 3, 3, 2, 1, 1}, 0, 2, api.OK},
		{[]byte{4, 2, 2, 4, 0, 0, 1, 1}, 0, -1, api.OK},
		{[]byte{254, 4, 9, 9}, 0, -1, api.OK},
		{[]byte{1, 1, 8, 2}, 0, -1, api.OK},
		{[]byte{8, 1, 0, 0}, 0, 0, api.ErrForm},
		{[]byte{8, 0, 0, 0}, 0, 0, api.ErrForm},
		{[]byte{8, 5, 0, 0}, 0, 0, api.ErrForm},
		{[]byte{1, 1, 1, 8}, 0, 0, api.ErrForm},
		{[]byte{1, 1, 1, 2}, 0, 0, api.ErrForm},
		{[]byte{2, 3, 1, 0}, 0, 0, api.ErrForm},
		{[]byte{2, 5, 1, 1, 1, 0, 0, 0}, 0, 0, api.ErrForm},
		{[]byte{3, 4, 1, 1}, 0, 0, api.ErrForm},
		{[]byte{3, 2, 1, 1}, 0, 0, api.ErrForm},
	} {
		s, err := Decode(a1, a2, wire(c.options, []byte{5}))
		if err != c.want || s.MSS != c.mss || s.Scale != c.scale || err == api.OK && !bytes.Equal(s.Data, []byte{5}) || err != api.OK && !equal(s, api.Segment{}) {
			t.Errorf("%d: %v, %v", i, s, err)
		}
	}
}

func TestP14_2Errors(t *testing.T) {
	good := wire([]byte{8, 4, 0, 0}, []byte{1, 2})
	set := func(at int, v byte) []byte {
		x := bytes.Clone(good)
		x[at] = v
		return x
	}
	for i, c := range []struct {
		b    []byte
		want api.Errno
	}{
		{make([]byte, 65516), api.ErrLong},
		{wire(nil, make([]byte, 65495)), api.OK},
		{nil, api.ErrShort},
		{good[:19], api.ErrShort},
		{set(12, 0x40), api.ErrForm},
		{set(12, 0xf0), api.ErrShort},
		{good[:23], api.ErrShort},
		{set(25, 99), api.ErrSum},
		{set(21, 1), api.ErrSum},
		{set(17, good[17]+1), api.ErrSum},
		{good, api.OK},
	} {
		s, err := Decode(a1, a2, c.b)
		if err != c.want || err != api.OK && !equal(s, api.Segment{}) {
			t.Errorf("%d: %v, want %v", i, err, c.want)
		}
	}
	if _, err := Decode(a1, a1, good); err != api.ErrSum {
		t.Error("the addresses are not summed:", err)
	}
	odd := wire(nil, nil)
	odd[12], odd[13], odd[18], odd[19] = 0x5f, 0xff, 1, 2
	odd[16], odd[17] = 0, 0
	sum := octet.Sum(pseudo(odd))
	odd[16], odd[17] = byte(sum>>8), byte(sum)
	if s, err := Decode(a1, a2, odd); err != api.OK || s.Flags != 63 || len(s.Data) != 0 {
		t.Error(s, err)
	}
}

func TestP14_3Length(t *testing.T) {
	for i, c := range []struct {
		s    api.Segment
		want int
	}{
		{api.Segment{}, 0},
		{api.Segment{Flags: api.Rst | api.Psh | api.Ack | api.Urg}, 0},
		{api.Segment{Flags: api.Syn}, 1},
		{api.Segment{Flags: api.Fin | api.Ack, Data: make([]byte, 5)}, 6},
		{api.Segment{Flags: 63, Data: make([]byte, 5)}, 7},
	} {
		if got := Length(c.s); got != c.want {
			t.Errorf("%d: %d", i, got)
		}
	}
}

func TestP14_4Reset(t *testing.T) {
	from := api.Segment{From: a1, FromPort: 5, To: a2, ToPort: 6, Seq: 7, Ack: 9, Window: 8, MSS: 3, Scale: 4, Data: []byte{1, 2}}
	back := api.Segment{From: a2, FromPort: 6, To: a1, ToPort: 5, Scale: -1}
	for i, c := range []struct {
		flags int
		want  api.Segment
		ok    bool
	}{
		{api.Rst, api.Segment{}, false},
		{api.Rst | api.Ack, api.Segment{}, false},
		{api.Ack | api.Fin, api.Segment{Flags: api.Rst, Seq: 9}, true},
		{api.Syn | api.Ack, api.Segment{Flags: api.Rst, Seq: 9}, true},
		{api.Syn, api.Segment{Flags: api.Rst | api.Ack, Ack: 10}, true},
		{0, api.Segment{Flags: api.Rst | api.Ack, Ack: 9}, true},
		{api.Syn | api.Fin, api.Segment{Flags: api.Rst | api.Ack, Ack: 11}, true},
	} {
		s := from
		s.Flags = c.flags
		want := c.want
		if c.ok {
			want.From, want.FromPort, want.To, want.ToPort, want.Scale = back.From, back.FromPort, back.To, back.ToPort, -1
		}
		if got, ok := Reset(s); ok != c.ok || !equal(got, want) {
			t.Errorf("%d: %v, %v", i, got, ok)
		}
	}
	if got, _ := Reset(api.Segment{Seq: 0xffffffff, Flags: api.Syn}); got.Ack != 0 {
		t.Error(got)
	}
}

func TestP14_5RoundTrips(t *testing.T) {
	x := uint32(1)
	draw := func(n int) int {
		x = x*1664525 + 1013904223
		return int(x>>8) % n
	}
	for range 300 {
		s := api.Segment{From: api.Addr(draw(1 << 24)), FromPort: draw(65536), To: api.Addr(draw(1<<24) << 8), ToPort: draw(65536), Seq: x, Ack: x * 77, Flags: draw(64), Window: draw(65536), MSS: draw(2) * draw(65536), Scale: draw(16) - 1, Data: bytes.Repeat([]byte{byte(x)}, draw(1500))}
		b, err := Encode(s)
		if err != api.OK {
			t.Fatal(err)
		}
		if got, err := Decode(s.From, s.To, b); err != api.OK || !equal(s, got) {
			t.Fatal(s, got, err)
		}
		i := draw(len(b))
		y := bytes.Clone(b)
		y[i] ^= byte(1 + draw(255))
		_, err = Decode(s.From, s.To, y)
		if err == api.OK && octet.Part(y) != octet.Part(b) || err == api.ErrForm && i != 12 || err == api.ErrShort && i != 12 {
			t.Fatal("byte", i, err)
		}
	}
}

func TestP14_6Memory(t *testing.T) {
	data := append(make([]byte, 0, 9), 1, 2)
	b, _ := Encode(api.Segment{Scale: -1, Data: data})
	b[20] = 9
	if data[0] != 1 || data[:3][2] != 0 {
		t.Error("Encode shares memory")
	}
	b, _ = Encode(api.Segment{Scale: -1, Data: data})
	s, _ := Decode(0, 0, b)
	s.Data[0] = 50
	if b[20] != 1 {
		t.Error("Decode shares memory")
	}
}
