package name

import (
	"bytes"
	"slices"
	"strings"
	"testing"

	"wharf/api"
)

var long63 = strings.Repeat("x", 63)

// name253 is the longest name.
var name253 = strings.Join([]string{long63, long63, long63, long63[:61]}, ".")

func TestP21_1Pack(t *testing.T) {
	for s, want := range map[string]string{
		"": "\x00", "a.bc": "\x01a\x02bc\x00", "A-\xff ": "\x04A-\xff \x00", "é.ü": "\x02é\x02ü\x00",
		long63: "\x3f" + long63 + "\x00",
	} {
		if b, err := Pack(s); err != api.OK || string(b) != want {
			t.Errorf("%q: %q, %v", s, b, err)
		}
	}
	if b, err := Pack(name253); err != api.OK || len(b) != 255 {
		t.Error(len(name253), len(b), err)
	}
	for _, s := range []string{".", "a..b", ".a", "a.", "..", long63 + "x", "a." + long63 + "x.b", name253 + "x", strings.Repeat("a.", 1<<20)} {
		if b, err := Pack(s); err != api.ErrName || len(b) != 0 {
			t.Errorf("%.20q: %v", s, err)
		}
	}
}

func TestP21_2Unpack(t *testing.T) {
	packed, _ := Pack(name253)
	more := slices.Concat([]byte("\x01y\x00"), packed)
	for i, c := range []struct {
		b      string
		at     int
		name   string
		behind int
		err    api.Errno
	}{
		{"\x01a\x00\x01b\xc0\x00", 3, "b.a", 7, api.OK},
		{"\x01a\x00\x01b\xc0\x00", 0, "a", 3, api.OK},
		{"\x01a\x00\x01b\xc0\x00", 2, "", 3, api.OK},
		{"\x01a\x00\x01b\xc0\x00", 5, "a", 7, api.OK},
		{"\x01a\x00\x01b\xc0\x00\x01c\xc0\x03z", 7, "c.b.a", 11, api.OK},
		{"\xc0\x00", 0, "", 0, api.ErrLoop},
		{"\x01a\xc0\x00", 0, "", 0, api.ErrLoop},
		{"\x01a\x00\xc0\x04", 3, "", 0, api.ErrLoop},
		{"\x01a\xc0\x02", 0, "", 0, api.ErrLoop},
		{"\x00\x01a\xc0\x05\xc0\x01", 5, "", 0, api.ErrLoop},
		{"\x40", 0, "", 0, api.ErrForm},
		{"\x80\x00", 0, "", 0, api.ErrForm},
		{"\xbf\x00", 0, "", 0, api.ErrForm},
		{"\x05a", 0, "", 0, api.ErrShort},
		{"\x01a", 0, "", 0, api.ErrShort},
		{"\x01", 0, "", 0, api.ErrShort},
		{"\x00\xc0", 1, "", 0, api.ErrShort},
		{"", 0, "", 0, api.ErrShort},
		{"\x00", 1, "", 0, api.ErrShort},
		{"\x00", -1, "", 0, api.ErrShort},
		{"\x00", 1 << 62, "", 0, api.ErrShort},
		{"\x03a.b\x00", 0, "", 0, api.ErrName},
		{"\x03a.b", 0, "", 0, api.ErrName},
		{"\x04a.b", 0, "", 0, api.ErrShort},
		{string(packed), 0, name253, 255, api.OK},
		{string(more) + "\x01z\xc0\x03", 258, "", 0, api.ErrName},
		{string(more), 3, name253, 258, api.OK},
	} {
		name, behind, err := Unpack([]byte(c.b), c.at)
		if name != c.name || behind != c.behind || err != c.err {
			t.Errorf("%d: %q, %d, %v", i, name, behind, err)
		}
	}
	far := make([]byte, 0x3fff+3)
	copy(far[0x0203:], "\x01q\x00")
	copy(far[0x3fff:], "\xc2\x03")
	if name, behind, err := Unpack(far, 0x3fff); name != "q" || behind != 0x4001 || err != api.OK {
		t.Error(name, behind, err)
	}
}

func records1() api.Message {
	return api.Message{ID: 0x1234, Flags: api.Response | api.Recursion,
		Question: []api.Record{{Name: "www.a.b", Type: api.TypeA, Class: api.ClassIN}},
		Answer: []api.Record{
			{Name: "www.a.b", Type: api.TypeCNAME, Class: api.ClassIN, TTL: 5, Data: []byte("c.d")},
			{Name: "c.d", Type: api.TypeA, Class: api.ClassIN, TTL: 1<<31 - 1, Data: []byte{1, 2, 3, 4}},
			{Name: "", Type: 16, Class: 3, Data: []byte("text")},
		}}
}

const wire1 = "\x12\x34\x81\x00\x00\x01\x00\x03\x00\x00\x00\x00" +
	"\x03www\x01a\x01b\x00\x00\x01\x00\x01" +
	"\x03www\x01a\x01b\x00\x00\x05\x00\x01\x00\x00\x00\x05\x00\x05\x01c\x01d\x00" +
	"\x01c\x01d\x00\x00\x01\x00\x01\x7f\xff\xff\xff\x00\x04\x01\x02\x03\x04" +
	"\x00\x00\x10\x00\x03\x00\x00\x00\x00\x00\x04text"

func sameRecords(a, b []api.Record) bool {
	return slices.EqualFunc(a, b, func(x, y api.Record) bool {
		return x.Name == y.Name && x.Type == y.Type && x.Class == y.Class && x.TTL == y.TTL && bytes.Equal(x.Data, y.Data)
	})
}

func same(a, b api.Message) bool {
	return a.ID == b.ID && a.Flags == b.Flags && sameRecords(a.Question, b.Question) && sameRecords(a.Answer, b.Answer)
}

func TestP21_3Encode(t *testing.T) {
	if b, err := Encode(records1()); err != api.OK || string(b) != wire1 {
		t.Errorf("%q, %v", b, err)
	}
	question := func(r api.Record) api.Message { return api.Message{Question: []api.Record{r}} }
	answer := func(l ...api.Record) api.Message { return api.Message{Answer: l} }
	bad := api.Record{Name: "."}
	for i, c := range []struct {
		m    api.Message
		want api.Errno
	}{
		{api.Message{ID: -1, Question: []api.Record{bad}}, api.ErrArg},
		{api.Message{ID: 65536}, api.ErrArg},
		{api.Message{Flags: -1}, api.ErrArg},
		{api.Message{Flags: 65536}, api.ErrArg},
		{api.Message{ID: 65535, Flags: 65535}, api.OK},
		{question(api.Record{Type: -1}), api.ErrArg},
		{question(api.Record{Class: 65536}), api.ErrArg},
		{question(api.Record{TTL: -1, Type: api.TypeA, Data: make([]byte, 70000)}), api.OK},
		{answer(bad, api.Record{Type: 65536}), api.ErrArg},
		{answer(bad, api.Record{Class: -1}), api.ErrArg},
		{answer(bad, api.Record{TTL: -1}), api.ErrArg},
		{answer(bad, api.Record{TTL: 1 << 31}), api.ErrArg},
		{api.Message{Question: make([]api.Record, 65), Answer: []api.Record{bad}}, api.ErrArg},
		{answer(make([]api.Record, 65)...), api.ErrArg},
		{api.Message{Question: make([]api.Record, 64), Answer: make([]api.Record, 64)}, api.OK},
		{question(bad), api.ErrName},
		{answer(api.Record{Type: api.TypeA}, bad), api.ErrName},
		{answer(api.Record{Type: api.TypeA}, api.Record{Type: api.TypeCNAME, Data: []byte("a..b")}), api.ErrName},
		{answer(api.Record{Type: api.TypeCNAME, Data: make([]byte, 70000)}), api.ErrName},
		{answer(api.Record{Type: api.TypeCNAME}), api.OK},
		{answer(api.Record{Type: api.TypeCNAME}, api.Record{Type: api.TypeA}), api.ErrForm},
		{answer(api.Record{Data: make([]byte, 65536)}, api.Record{Type: api.TypeA, Data: make([]byte, 5)}), api.ErrForm},
		{answer(api.Record{Type: api.TypeA, Data: make([]byte, 3)}), api.ErrForm},
		{answer(api.Record{Data: make([]byte, 65536)}), api.ErrLong},
		{answer(api.Record{Data: make([]byte, 65535)}), api.OK},
	} {
		b, err := Encode(c.m)
		if err != c.want || err != api.OK && len(b) != 0 {
			t.Errorf("%d: %v, want %v", i, err, c.want)
		}
	}
}

func TestP21_4Decode(t *testing.T) {
	if m, err := Decode([]byte(wire1 + "more")); err != api.OK || !same(m, records1()) {
		t.Error(m, err)
	}
	for n := range len(wire1) {
		if m, err := Decode([]byte(wire1[:n])); err != api.ErrShort || !same(m, api.Message{}) {
			t.Error(n, m, err)
		}
	}
	head := func(questions, answers string) string {
		return "\x00\x01\x80\x00\x00" + questions + "\x00" + answers + "\xff\xff\xff\xff"
	}
	for i, c := range []struct {
		b    string
		want api.Errno
	}{
		{head("\x00", "\x00"), api.OK},
		{head("\x41", "\x00"), api.ErrLong},
		{head("\x00", "\x41"), api.ErrLong},
		{head("\x40", "\x00") + strings.Repeat("\x00\x00\x01\x00\x01", 64), api.OK},
		{head("\x00", "\x40") + strings.Repeat("\x00\x00\x09\x00\x01\x00\x00\x00\x00\x00\x00", 64), api.OK},
		{head("\x01", "\x00") + "\x40", api.ErrForm},
		{head("\x01", "\x00") + "\xc0\x0c", api.ErrLoop},
		{head("\x01", "\x00") + "\x01.\x00", api.ErrName},
		{head("\x01", "\x00") + "\xc0\x03\x00\x01\x00\x01", api.OK},
		{head("\x00", "\x01") + "\x00\x00\x01\x00\x01\x00\x00\x00\x00\x00\x03abc", api.ErrForm},
		{head("\x00", "\x01") + "\x00\x00\x01\x00\x01\x00\x00\x00\x00\x00\x05abcde", api.ErrForm},
		{head("\x00", "\x01") + "\x00\x00\x01\x00\x01\x00\x00\x00\x00\x00\x05abcd", api.ErrShort},
		{head("\x00", "\x01") + "\x00\x00\x05\x00\x01\x00\x00\x00\x00\x00\x03\x01a\x00", api.OK},
		{head("\x00", "\x01") + "\x00\x00\x05\x00\x01\x00\x00\x00\x00\x00\x04\x01a\x00\x00", api.ErrForm},
		{head("\x00", "\x01") + "\x00\x00\x05\x00\x01\x00\x00\x00\x00\x00\x02\x01a\x00", api.ErrForm},
		{head("\x00", "\x01") + "\x00\x00\x05\x00\x01\x00\x00\x00\x00\x00\x01\x40", api.ErrForm},
		{head("\x00", "\x01") + "\x00\x00\x05\x00\x01\x00\x00\x00\x00\x00\x02\x05a", api.ErrShort},
		{head("\x00", "\x01") + "\x00\x00\x05\x00\x01\x00\x00\x00\x00\x00\x00", api.ErrShort},
		{head("\x00", "\x01") + "\x00\x00\x05\x00\x01\x00\x00\x00\x00\x00\x02\xc0\x0c", api.OK},
		{head("\x00", "\x01") + "\x00\x00\x05\x00\x01\x00\x00\x00\x00\x00\x02\xc0\x17", api.ErrLoop},
		{head("\x00", "\x02") + "\x00\x00\x01\x00\x01\x00\x00\x00\x00\x00\x03abc" + "\x40", api.ErrForm},
	} {
		m, err := Decode([]byte(c.b))
		if err != c.want || err != api.OK && !same(m, api.Message{}) {
			t.Errorf("%d: %v, %v", i, m, err)
		}
	}
	for ttl, want := range map[string]int{"\x7f\xff\xff\xff": 1<<31 - 1, "\x80\x00\x00\x00": 0, "\xff\xff\xff\xff": 0, "\x00\x00\x00\x07": 7} {
		m, err := Decode([]byte(head("\x00", "\x01") + "\x00\x00\x09\x00\x01" + ttl + "\x00\x00"))
		if err != api.OK || m.Answer[0].TTL != want {
			t.Error(m, err)
		}
	}
	m, err := Decode([]byte(head("\x01", "\x01") + "\x01a\x00\x00\x01\x00\x01" + "\xc0\x0c\x00\x05\x00\x01\x00\x00\x00\x09\x00\x04\x01b\xc0\x0c"))
	if err != api.OK || m.Answer[0].Name != "a" || string(m.Answer[0].Data) != "b.a" {
		t.Error(m, err)
	}
}

func TestP21_5Same(t *testing.T) {
	for _, c := range []struct {
		a, b string
		want bool
	}{
		{"", "", true}, {"a.B", "A.b", true}, {"a", "b", false}, {"a", "ab", false}, {"@[`{", "@[`{", true}, {"@", "`", false}, {"[", "{", false},
		{"é", "É", false}, {"\xc1", "\xe1", false}, {"AZ", "az", true}, {"\xff\xfeA", "\xff\xfea", true}, {"K", "\u212a", false},
	} {
		if Same(c.a, c.b) != c.want || Same(c.b, c.a) != c.want {
			t.Errorf("%q, %q", c.a, c.b)
		}
	}
}

func TestP21_6RoundTrips(t *testing.T) {
	x := uint32(1)
	draw := func(n int) int {
		x = x*1664525 + 1013904223
		return int(x>>8) % n
	}
	name := func() string {
		var l []string
		for range draw(5) {
			l = append(l, strings.Repeat(string(rune('a'+draw(26))), 1+draw(60)))
		}
		return strings.Join(l, ".")
	}
	for range 300 {
		m := api.Message{ID: draw(65536), Flags: draw(65536)}
		for range draw(4) {
			m.Question = append(m.Question, api.Record{Name: name(), Type: draw(65536), Class: draw(65536)})
		}
		for range draw(6) {
			r := api.Record{Name: name(), Type: []int{1, 5, 16, 28}[draw(4)], Class: draw(65536), TTL: draw(1 << 20), Data: make([]byte, draw(50))}
			switch r.Type {
			case api.TypeA:
				r.Data = []byte{1, 2, 3, byte(draw(256))}
			case api.TypeCNAME:
				r.Data = []byte(name())
			}
			m.Answer = append(m.Answer, r)
		}
		b, err := Encode(m)
		if err != api.OK {
			t.Fatal(err)
		}
		if got, err := Decode(b); err != api.OK || !same(got, m) {
			t.Fatal(err, got, m)
		}
		b[draw(len(b))] ^= byte(draw(256))
		if got, err := Decode(b); err == api.OK {
			if _, err := Encode(got); err != api.OK {
				t.Fatal("what is decoded cannot be encoded:", err, got)
			}
		}
	}
	jumps := []byte{0, 0}
	for len(jumps) < 16000 {
		at := len(jumps) - 2
		jumps = append(jumps, 0xc0|byte(at>>8), byte(at))
	}
	if s, behind, err := Unpack(jumps, len(jumps)-2); s != "" || behind != len(jumps) || err != api.OK {
		t.Error(s, behind, err)
	}
}

func TestP21_7Memory(t *testing.T) {
	b := []byte(wire1)
	m, _ := Decode(b)
	clear(b)
	if !same(m, records1()) {
		t.Error("Decode shares memory")
	}
	m.Answer[1].Data = append(m.Answer[1].Data[:0], 9, 9, 9, 9, 9)
	if string(m.Answer[2].Data) != "text" {
		t.Error("two results share memory")
	}
	m = records1()
	out, _ := Encode(m)
	clear(out)
	if !same(m, records1()) {
		t.Error("Encode shares memory")
	}
}
