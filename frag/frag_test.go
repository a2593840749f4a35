package frag

import (
	"bytes"
	"math"
	"slices"
	"testing"

	"wharf/api"
	"wharf/ipv4"
)

// some is n bytes, each another than the one before.
func some(n int) []byte {
	b := make([]byte, n)
	for i := range b {
		b[i] = byte(i*7 + i/256)
	}
	return b
}

func equal(a, b api.Packet) bool {
	x, y := a, b
	x.Options, x.Data, y.Options, y.Data = nil, nil, nil, nil
	return x.Service == y.Service && x.ID == y.ID && x.Whole == y.Whole && x.More == y.More && x.Offset == y.Offset && x.Life == y.Life && x.Proto == y.Proto && x.From == y.From && x.To == y.To && bytes.Equal(a.Options, b.Options) && bytes.Equal(a.Data, b.Data)
}

func TestP7_1Split(t *testing.T) {
	p := api.Packet{Service: 1, ID: 2, Life: 3, Proto: 17, From: 4, To: 5, Data: some(100)}
	pieces, err := Split(p, 68)
	if err != api.OK || len(pieces) != 3 {
		t.Fatal(err, len(pieces))
	}
	at := 0
	for i, n := range []int{48, 48, 4} {
		want := p
		want.Offset, want.More, want.Data = at, i < 2, p.Data[at:at+n]
		if !equal(pieces[i], want) {
			t.Error(i, pieces[i])
		}
		at += n
	}
	for _, n := range []int{0, 1, 48} {
		p.Data = some(n)
		if pieces, err := Split(p, 68); err != api.OK || len(pieces) != 1 || !equal(pieces[0], p) {
			t.Error(n, err)
		}
	}
	p.Data = some(49)
	if pieces, err := Split(p, 69); err != api.OK || len(pieces) != 1 {
		t.Error(err, len(pieces))
	}
	p.Data = some(97)
	if pieces, err := Split(p, 69); err != api.OK || len(pieces) != 2 || len(pieces[0].Data) != 48 || len(pieces[1].Data) != 49 {
		t.Error("the last piece has all that fits:", err, len(pieces))
	}
}

func TestP7_1SplitAgain(t *testing.T) {
	p := api.Packet{More: true, Offset: 800, Proto: 17, Data: some(104)}
	pieces, err := Split(p, 68)
	if err != api.OK || len(pieces) != 3 || pieces[2].Offset != 896 || !pieces[2].More || len(pieces[2].Data) != 8 {
		t.Error(err, pieces)
	}
}

func TestP7_1Options(t *testing.T) {
	options := []byte{1, 130, 3, 9, 7, 4, 5, 5, 200, 2, 0, 0}
	p := api.Packet{Options: options, Data: some(120)}
	pieces, err := Split(p, 76)
	if err != api.OK || len(pieces) != 3 {
		t.Fatal(err, len(pieces))
	}
	if !bytes.Equal(pieces[0].Options, options) || len(pieces[0].Data) != 40 {
		t.Error(pieces[0])
	}
	for _, q := range pieces[1:] {
		if !bytes.Equal(q.Options, []byte{130, 3, 9, 200, 2}) {
			t.Error(q.Options)
		}
	}
	if len(pieces[1].Data) != 48 || len(pieces[2].Data) != 32 {
		t.Error(len(pieces[1].Data), len(pieces[2].Data))
	}
}

func TestP7_1HeaderLengths(t *testing.T) {
	for n, length := range []int{20, 24, 24, 24, 24, 28, 28, 28, 28, 32} {
		p := api.Packet{Options: bytes.Repeat([]byte{1}, n), Data: some(100 - length)}
		if pieces, err := Split(p, 100); err != api.OK || len(pieces) != 1 {
			t.Error(n, len(pieces), err)
		}
		p.Data = some(101 - length)
		if pieces, err := Split(p, 100); err != api.OK || len(pieces) != 2 {
			t.Error(n, len(pieces), err)
		}
	}
	pieces, _ := Split(api.Packet{Options: []byte{127, 2, 128, 2}, Data: some(100)}, 68)
	if !bytes.Equal(pieces[1].Options, []byte{128, 2}) {
		t.Error(pieces[1].Options)
	}
}

func TestP7_1Errors(t *testing.T) {
	big := api.Packet{Whole: true, Data: some(100)}
	for i, c := range []struct {
		p    api.Packet
		mtu  int
		want api.Errno
	}{
		{api.Packet{ID: -1}, 67, api.ErrArg},
		{api.Packet{Options: []byte{9}}, 65536, api.ErrArg},
		{api.Packet{}, -1, api.ErrArg},
		{api.Packet{}, 68, api.OK},
		{api.Packet{}, 65535, api.OK},
		{api.Packet{ID: -1}, 68, api.ErrArg},
		{api.Packet{Options: []byte{9}, Whole: true, Data: some(100)}, 68, api.ErrForm},
		{api.Packet{Data: make([]byte, 65516)}, 1500, api.ErrLong},
		{big, 119, api.ErrLong},
		{big, 120, api.OK},
	} {
		got, err := Split(c.p, c.mtu)
		if err != c.want || err != api.OK && len(got) != 0 {
			t.Errorf("%d: %v, want %v", i, err, c.want)
		}
	}
}

// add is Add that must answer just so.
func add(t *testing.T, s *Store, p api.Packet, now int, want api.Errno) {
	t.Helper()
	n := s.Len()
	q, ok, err := s.Add(p, now)
	if ok || err != want || !equal(q, api.Packet{}) || err != api.OK && s.Len() != n {
		t.Errorf("%v, %v, %v", q, ok, err)
	}
}

func TestP7_2Whole(t *testing.T) {
	var s Store
	p := api.Packet{ID: 7, Data: []byte{1}, Options: []byte{1}}
	for _, offset := range []int{0, -8, -5} {
		p.Offset = offset
		if q, ok, err := s.Add(p, 0); !ok || err != api.OK || !equal(p, q) || s.Len() != 0 {
			t.Error(q, ok, err)
		}
	}
}

func TestP7_2WholeWithoutData(t *testing.T) {
	var s Store
	if q, ok, err := s.Add(api.Packet{ID: 5}, 0); !ok || err != api.OK || q.ID != 5 {
		t.Error(q, ok, err)
	}
	add(t, &s, api.Packet{Offset: 1, Data: some(1)}, 0, api.ErrForm)
}

func TestP7_2Assembly(t *testing.T) {
	var s Store
	at := func(offset, n int, more bool, service int) api.Packet {
		return api.Packet{ID: 1, Proto: 17, From: 3, To: 4, Service: service, Life: service, Options: []byte{byte(service), 2}, Whole: service == 8, More: more, Offset: offset, Data: bytes.Repeat([]byte{byte(service)}, n)}
	}
	add(t, &s, at(32, 3, false, 5), 0, api.OK)
	add(t, &s, at(16, 8, true, 6), 0, api.OK)
	add(t, &s, at(8, 24, true, 7), 0, api.OK)
	add(t, &s, at(32, 3, false, 9), 0, api.OK)
	if s.Len() != 1 {
		t.Error(s.Len())
	}
	q, ok, err := s.Add(at(0, 16, true, 8), 0)
	want := at(0, 0, false, 8)
	want.Data = []byte{8, 8, 8, 8, 8, 8, 8, 8, 7, 7, 7, 7, 7, 7, 7, 7, 6, 6, 6, 6, 6, 6, 6, 6, 7, 7, 7, 7, 7, 7, 7, 7, 5, 5, 5}
	if !ok || err != api.OK || !equal(q, want) || s.Len() != 0 {
		t.Error(q, ok, err)
	}
	add(t, &s, at(0, 8, true, 6), 0, api.OK)
	add(t, &s, at(0, 8, true, 7), 0, api.OK)
	q, ok, _ = s.Add(at(8, 1, false, 9), 0)
	if !ok || q.Service != 6 || !bytes.Equal(q.Data, []byte{6, 6, 6, 6, 6, 6, 6, 6, 9}) {
		t.Error(q, ok)
	}
}

func TestP7_2OtherDatagrams(t *testing.T) {
	var s Store
	base := api.Packet{ID: 1, Proto: 2, From: 3, To: 4, More: true, Data: some(8)}
	add(t, &s, base, 0, api.OK)
	for i := range 4 {
		p := base
		p.More, p.Offset = false, 8
		switch i {
		case 0:
			p.ID++
		case 1:
			p.Proto++
		case 2:
			p.From++
		default:
			p.To++
		}
		add(t, &s, p, 0, api.OK)
	}
	if s.Len() != 5 {
		t.Error(s.Len())
	}
}

func TestP7_2Errors(t *testing.T) {
	var s Store
	at := func(offset, n int, more bool) api.Packet {
		return api.Packet{More: more, Offset: offset, Data: make([]byte, n)}
	}
	add(t, &s, at(8, 0, false), 0, api.ErrForm)
	add(t, &s, at(0, 0, true), 0, api.ErrForm)
	add(t, &s, at(0, 7, true), 0, api.ErrForm)
	add(t, &s, at(-8, 8, true), 0, api.ErrForm)
	add(t, &s, at(4, 8, false), 0, api.ErrForm)
	add(t, &s, at(65512, 8, true), 0, api.ErrLong)
	add(t, &s, at(65512, 4, false), 0, api.ErrLong)
	add(t, &s, at(math.MaxInt-7, 8, true), 0, api.ErrLong)
	add(t, &s, at(math.MaxInt-7, 9, false), 0, api.ErrLong)
	if s.Len() != 0 {
		t.Fatal(s.Len())
	}
	add(t, &s, at(65512, 3, false), 0, api.OK)
	add(t, &s, at(65504, 8, false), 0, api.ErrForm)
	add(t, &s, at(65512, 2, false), 0, api.ErrForm)
	add(t, &s, at(65512, 3, false), 0, api.OK)
	add(t, &s, at(65504, 8, true), 0, api.OK)
	s = Store{}
	add(t, &s, at(16, 8, true), 0, api.OK)
	add(t, &s, at(8, 8, false), 0, api.ErrForm)
	add(t, &s, at(16, 7, false), 0, api.ErrForm)
	add(t, &s, at(16, 8, false), 0, api.OK)
	add(t, &s, at(24, 8, true), 0, api.ErrForm)
	add(t, &s, at(16, 16, true), 0, api.ErrForm)
	add(t, &s, at(8, 16, true), 0, api.OK)
	if _, ok, err := s.Add(at(0, 8, true), 0); !ok || err != api.OK {
		t.Error(ok, err)
	}
}

func TestP7_2TheOldestMakesRoom(t *testing.T) {
	var s Store
	for i := range 8 {
		add(t, &s, api.Packet{ID: i, More: true, Data: some(8)}, []int{9, 5, 7, 5, 9, 9, 9, 9}[i], api.OK)
	}
	add(t, &s, api.Packet{ID: 99, More: true, Data: some(8)}, 1, api.OK)
	if s.Len() != 8 {
		t.Error(s.Len())
	}
	add(t, &s, api.Packet{ID: 98, More: true, Data: some(8)}, 1, api.OK)
	last := func(id int) bool {
		_, ok, _ := s.Add(api.Packet{ID: id, Offset: 8, Data: some(1)}, 9)
		return ok
	}
	for _, id := range []int{0, 2, 3, 4, 5, 6, 7, 98} {
		if !last(id) {
			t.Error("gone:", id)
		}
	}
	if s.Len() != 0 || last(1) || last(99) {
		t.Error("the oldest ones are there yet")
	}
}

func TestP7_2OfOneAge(t *testing.T) {
	var s Store
	for i := range 10 {
		add(t, &s, api.Packet{ID: i, More: true, Data: some(8)}, 5, api.OK)
	}
	for i := range 10 {
		if _, ok, _ := s.Add(api.Packet{ID: i, Offset: 8, Data: some(1)}, 5); ok != (i > 1 && i < 10) {
			t.Error(i, ok)
		}
		s.Tick(305)
		s = Store{}
		for k := range 10 {
			s.Add(api.Packet{ID: k, More: true, Data: some(8)}, 5)
		}
	}
}

func TestP7_3Tick(t *testing.T) {
	var s Store
	add(t, &s, api.Packet{ID: 1, More: true, Data: some(8), Service: 3}, 20, api.OK)
	add(t, &s, api.Packet{ID: 1, More: true, Data: some(16), Service: 4}, 25, api.OK)
	add(t, &s, api.Packet{ID: 2, More: true, Offset: 8, Data: some(8)}, 10, api.OK)
	add(t, &s, api.Packet{ID: 3, More: true, Data: some(24)}, 10, api.OK)
	add(t, &s, api.Packet{ID: 4, More: true, Data: some(8)}, 21, api.OK)
	if got := s.Tick(309); len(got) != 0 || s.Len() != 4 {
		t.Error(got, s.Len())
	}
	got := s.Tick(320)
	if len(got) != 2 || !equal(got[0], api.Packet{ID: 1, More: true, Data: some(8), Service: 3}) || got[1].ID != 3 || len(got[1].Data) != 24 || s.Len() != 1 {
		t.Error(got, s.Len())
	}
	if got := s.Tick(math.MaxInt); len(got) != 1 || got[0].ID != 4 || s.Len() != 0 {
		t.Error(got)
	}
	add(t, &s, api.Packet{ID: 5, More: true, Data: some(8)}, math.MaxInt-1, api.OK)
	if got := s.Tick(math.MaxInt - 1); len(got) != 0 {
		t.Error("the sum wraps")
	}
	if got := s.Tick(math.MaxInt); len(got) != 1 {
		t.Error(got)
	}
}

func TestP7_4AnyOrder(t *testing.T) {
	x := uint32(5)
	draw := func(n int) int {
		x = x*1664525 + 1013904223
		return int(x>>8) % n
	}
	for range 200 {
		p := api.Packet{ID: draw(100), Service: draw(9), Life: draw(99), Proto: 6, From: 1, To: 2, Options: []byte{130, 2}, Data: some(1 + draw(4000))}
		pieces, err := Split(p, 68+draw(600))
		if err != api.OK {
			t.Fatal(err)
		}
		total := 0
		for _, q := range pieces {
			if b, err := ipv4.Encode(q); err != api.OK || len(b) > 668 {
				t.Fatal(err, len(b))
			}
			total += len(q.Data)
		}
		if total != len(p.Data) {
			t.Fatal(total)
		}
		var s Store
		present := map[int]int{}
		for {
			i := draw(len(pieces))
			present[i]++
			q, ok, err := s.Add(pieces[i], 0)
			if err != api.OK || ok != (len(present) == len(pieces)) {
				t.Fatal(ok, err, len(present), len(pieces))
			}
			if ok {
				if !equal(p, q) {
					t.Fatal("another packet comes out")
				}
				break
			}
		}
	}
}

func TestP7_5Bounds(t *testing.T) {
	var s Store
	for i := range 50 {
		s.Add(api.Packet{ID: i, Offset: 65504, Data: some(11)}, i)
		if s.Len() > api.MaxWhole {
			t.Fatal(s.Len())
		}
		for _, d := range s.begun {
			if len(d.data) > api.MaxPacket {
				t.Fatal(len(d.data))
			}
		}
	}
	if len(s.byKey) != s.Len() {
		t.Error("the map keeps more")
	}
}

func TestP7_6Memory(t *testing.T) {
	data := append(make([]byte, 0, 40), some(16)...)
	p := api.Packet{More: true, Options: []byte{1, 1}, Data: data[:8]}
	var s Store
	s.Add(p, 0)
	p.Data[0], p.Options[0] = 99, 99
	q, ok, _ := s.Add(api.Packet{Offset: 8, Data: data[8:]}, 0)
	if !ok || q.Data[0] != 0 || q.Options[0] != 1 || data[8] != some(9)[8] {
		t.Error(q)
	}
	q.Data[9] = 77
	if data[9] == 77 {
		t.Error("Add shares memory")
	}
	p = api.Packet{Options: []byte{130, 2}, Data: some(200)}
	pieces, _ := Split(p, 68)
	for i := range pieces {
		pieces[i].Options[0] = byte(i)
		pieces[i].Data = append(pieces[i].Data[:1], 9, 9, 9)
	}
	if !slices.Equal(p.Options, []byte{130, 2}) || !bytes.Equal(p.Data, some(200)) || pieces[0].Options[0] != 0 || pieces[1].Options[0] != 1 {
		t.Error("Split shares memory")
	}
	var none *Store
	if q, ok, err := none.Add(api.Packet{}, 0); ok || err != api.ErrArg || !equal(q, api.Packet{}) || none.Len() != 0 || len(none.Tick(9)) != 0 {
		t.Error("a nil Store")
	}
}
