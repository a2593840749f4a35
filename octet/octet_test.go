package octet

import (
	"bytes"
	"testing"

	"wharf/api"
)

// slowPart sums words with the carries added at once.
func slowPart(p []byte) int {
	n := 0
	for i, b := range p {
		if i%2 == 0 {
			n += int(b) << 8
		} else {
			n += int(b)
		}
		for n > 65535 {
			n -= 65535
		}
	}
	return n
}

// some is n bytes that look like nothing.
func some(n, seed int) []byte {
	b := make([]byte, n)
	x := uint32(seed)*2654435761 + 12345
	for i := range b {
		x = x*1664525 + 1013904223
		b[i] = byte(x >> 24)
	}
	return b
}

func TestP1_1Sums(t *testing.T) {
	cases := []struct {
		p    []byte
		part int
	}{
		{nil, 0},
		{[]byte{1}, 0x0100},
		{[]byte{0, 1}, 1},
		{[]byte{0xff, 0xff}, 0xffff},
		{[]byte{0xff, 0xff, 0, 1}, 1},
		{[]byte{0xff, 0xff, 0xff, 0xff, 0xff}, 0xff00},
		{[]byte{0, 1, 0xf2, 3, 0xf4, 0xf5, 0xf6, 0xf7}, 0xddf2},
	}
	for _, c := range cases {
		if got := Part(c.p); got != c.part {
			t.Errorf("Part(% x) = %x, want %x", c.p, got, c.part)
		}
		if got := Sum(c.p); got != 65535-c.part {
			t.Errorf("Sum(% x) = %x", c.p, got)
		}
	}
	for n := range 300 {
		if p := some(n, n); Part(p) != slowPart(p) {
			t.Errorf("Part of %d bytes", n)
		}
	}
	big := bytes.Repeat([]byte{0xff}, 1<<20)
	if Part(big) != 0xffff {
		t.Error("Part of many carries")
	}
	joins := [][3]int{{0xffff, 1, 1}, {0, 0, 0}, {0xffff, 0xffff, 0xffff}, {0x12345, -1, 0x2345}, {-65536, 7, 7}, {0x8000, 0x8000, 1}}
	for _, j := range joins {
		if got := Join(j[0], j[1]); got != j[2] {
			t.Errorf("Join(%x, %x) = %x", j[0], j[1], got)
		}
	}
}

func TestP1_2Writer(t *testing.T) {
	var w Writer
	if len(w.Bytes()) != 0 {
		t.Error("a zero Writer has written")
	}
	w.Byte(0x1ff)
	w.Byte(-2)
	w.Two(0x12345)
	w.Two(-2)
	w.Four(0x01020304)
	w.Raw(nil)
	w.Raw([]byte{9, 8})
	want := []byte{0xff, 0xfe, 0x23, 0x45, 0xff, 0xfe, 1, 2, 3, 4, 9, 8}
	if !bytes.Equal(w.Bytes(), want) {
		t.Errorf("% x", w.Bytes())
	}
}

func TestP1_3Reader(t *testing.T) {
	r := NewReader([]byte{1, 2, 3})
	if r.Left() != 3 || r.Two() != 258 || r.Left() != 1 || r.Err() != api.OK {
		t.Error("before the failure")
	}
	if r.Two() != 0 || r.Byte() != 0 || r.Left() != 0 || r.Err() != api.ErrShort {
		t.Error("behind the failure")
	}
	if r.Four() != 0 || len(r.Raw(0)) != 0 || r.Err() != api.ErrShort {
		t.Error("the failure does not last")
	}
	r = NewReader([]byte{0xff, 0xfe, 0xfd, 0xfc, 5, 6})
	if r.Four() != 0xfffefdfc || r.Err() != api.OK || !bytes.Equal(r.Raw(2), []byte{5, 6}) || r.Err() != api.OK || r.Left() != 0 {
		t.Error("four and the rest")
	}
	if r.Byte() != 0 || r.Err() != api.ErrShort {
		t.Error("a byte where none is")
	}
	for _, n := range []int{-1, -1 << 63, 4, 1<<63 - 1} {
		r = NewReader([]byte{1, 2, 3})
		if got := r.Raw(n); len(got) != 0 || r.Err() != api.ErrShort || r.Left() != 0 || r.Byte() != 0 {
			t.Errorf("Raw(%d) = %v", n, got)
		}
	}
	r = NewReader([]byte{1, 2, 3})
	if r.Four() != 0 || r.Byte() != 0 || r.Err() != api.ErrShort {
		t.Error("four of three bytes")
	}
}

func TestP1_4Properties(t *testing.T) {
	for n := range 60 {
		p, q := some(2*n, n), some(3*n+1, n+1)
		if Part(append(bytes.Clone(p), q...)) != Join(Part(p), Part(q)) {
			t.Errorf("%d: Part of both is not the Join", n)
		}
		var w Writer
		w.Raw(p)
		w.Two(Sum(p))
		if Sum(w.Bytes()) != 0 {
			t.Errorf("%d: the Sum with the Sum", n)
		}
	}
}

func TestP1_5ReadsWhatWasWritten(t *testing.T) {
	for n := range 50 {
		raw := some(n, n)
		var w Writer
		w.Byte(n)
		w.Two(n * 1000)
		w.Four(uint32(n) * 99999989)
		w.Raw(raw)
		r := NewReader(w.Bytes())
		if r.Byte() != n || r.Two() != n*1000 || r.Four() != uint32(n)*99999989 || !bytes.Equal(r.Raw(n), raw) || r.Left() != 0 || r.Err() != api.OK {
			t.Errorf("%d: read is not what was written", n)
		}
	}
}

func TestP1_6Memory(t *testing.T) {
	p := []byte{1, 2, 3, 4, 5, 6}
	r := NewReader(p[:4])
	p[0], p[1] = 9, 9
	if r.Two() != 258 {
		t.Error("a Reader sees later changes")
	}
	x := r.Raw(2)
	x[0] = 77
	_ = append(x, 88)
	if p[2] != 3 || p[4] != 5 {
		t.Error("Raw hands out the argument's memory")
	}
	raw := []byte{1, 2}
	var w Writer
	w.Raw(raw)
	raw[0] = 9
	b := w.Bytes()
	b[1] = 9
	b = append(b, 50)
	w.Byte(60)
	if b[2] != 50 || !bytes.Equal(w.Bytes(), []byte{1, 2, 60}) {
		t.Error("the Writer shares memory")
	}
	var zero Reader
	if zero.Left() != 0 || zero.Err() != api.OK || len(zero.Raw(0)) != 0 || zero.Err() != api.OK || zero.Byte() != 0 || zero.Err() != api.ErrShort {
		t.Error("a zero Reader")
	}
}

func TestNilWriterAndReader(t *testing.T) {
	var w *Writer
	w.Byte(1)
	w.Two(1)
	w.Four(1)
	w.Raw([]byte{1})
	if len(w.Bytes()) != 0 {
		t.Error("a nil Writer")
	}
	var r *Reader
	if r.Byte() != 0 || r.Two() != 0 || r.Four() != 0 || len(r.Raw(1)) != 0 || r.Left() != 0 || r.Err() != api.ErrArg {
		t.Error("a nil Reader")
	}
}
