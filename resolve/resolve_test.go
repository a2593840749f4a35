package resolve

import (
	"math"
	"slices"
	"strconv"
	"strings"
	"testing"

	"wharf/api"
	"wharf/name"
)

const (
	server0 = api.Addr(0x0a000035)
	server1 = api.Addr(0x0a000036)
	server2 = api.Addr(0x0a000037)
	port    = 4000
)

func fresh(t *testing.T, servers ...api.Addr) *Resolver {
	t.Helper()
	r, err := New(servers, port)
	if err != api.OK {
		t.Fatal(err)
	}
	return r
}

// sent is datagrams as text: id, name, the last byte of the server.
func sent(t *testing.T, l []api.Datagram) string {
	t.Helper()
	var out []string
	for _, d := range l {
		m, err := name.Decode(d.Data)
		if err != api.OK || d.From != 0 || d.FromPort != port || d.ToPort != 53 || m.Flags != api.Recursion || len(m.Question) != 1 || len(m.Answer) != 0 || m.Question[0].Type != api.TypeA || m.Question[0].Class != api.ClassIN {
			t.Error("a wrong question", d, m, err)
		}
		out = append(out, strconv.Itoa(m.ID)+" "+m.Question[0].Name+" "+strconv.Itoa(int(d.To&255)))
	}
	return strings.Join(out, ", ")
}

// found is Founds as text: name, error, the last bytes of the addresses.
func found(l []api.Found) string {
	var out []string
	for _, f := range l {
		x := f.Name + " " + strconv.Itoa(int(f.Err))
		for _, a := range f.Addrs {
			x += " " + strconv.Itoa(int(a&255))
		}
		out = append(out, x)
	}
	return strings.Join(out, ", ")
}

func is(t *testing.T, what string, f []api.Found, d []api.Datagram, wantFound, wantSent string) {
	t.Helper()
	if found(f) != wantFound || sent(t, d) != wantSent {
		t.Errorf("%s: %q, %q; want %q, %q", what, found(f), sent(t, d), wantFound, wantSent)
	}
}

func ask(t *testing.T, r *Resolver, text string, now, draw int, wantFound, wantSent string) {
	t.Helper()
	f, d := r.Ask(text, now, draw)
	is(t, "Ask "+text, f, d, wantFound, wantSent)
}

func tick(t *testing.T, r *Resolver, now, draw int, wantFound, wantSent string) {
	t.Helper()
	f, d := r.Tick(now, draw)
	is(t, "Tick "+strconv.Itoa(now), f, d, wantFound, wantSent)
}

func a(of string, ttl int, last byte) api.Record {
	return api.Record{Name: of, Type: api.TypeA, Class: api.ClassIN, TTL: ttl, Data: []byte{1, 2, 3, last}}
}

func cname(of string, ttl int, other string) api.Record {
	return api.Record{Name: of, Type: api.TypeCNAME, Class: api.ClassIN, TTL: ttl, Data: []byte(other)}
}

// answer is what a server says to a question.
func answer(id int, of string, code int, l ...api.Record) api.Datagram {
	b, err := name.Encode(api.Message{ID: id, Flags: api.Response | code, Question: []api.Record{{Name: of, Type: api.TypeA, Class: api.ClassIN}}, Answer: l})
	if err != api.OK {
		panic(err)
	}
	return api.Datagram{From: server0, FromPort: 53, To: 99, ToPort: port, Data: b}
}

func hear(t *testing.T, r *Resolver, d api.Datagram, now, draw int, wantFound, wantSent string) {
	t.Helper()
	f, l := r.Hear(d, now, draw)
	is(t, "Hear", f, l, wantFound, wantSent)
}

func counted(t *testing.T, r *Resolver, asked, kept int) {
	t.Helper()
	if a, k := r.Count(); a != asked || k != kept {
		t.Errorf("asked %d, kept %d; want %d, %d", a, k, asked, kept)
	}
}

func TestP22_1New(t *testing.T) {
	for _, c := range []struct {
		servers []api.Addr
		port    int
	}{{nil, port}, {make([]api.Addr, 4), port}, {make([]api.Addr, 1), 0}, {make([]api.Addr, 1), 65536}, {make([]api.Addr, 1), -1}} {
		if r, err := New(c.servers, c.port); err != api.ErrArg || r != nil {
			t.Error(c, err)
		}
	}
	if _, err := New([]api.Addr{server0}, 1); err != api.OK {
		t.Error(err)
	}
	for n := 1; n <= 3; n++ {
		if _, err := New(make([]api.Addr, n), 65535); err != api.OK {
			t.Error(n, err)
		}
	}
}

func TestTheExample(t *testing.T) {
	r := fresh(t, server0)
	ask(t, r, "a.b", 0, 7, "", "7 a.b 53")
	hear(t, r, answer(7, "a.b", 0, cname("a.b", 5, "c"), a("c", 5, 4)), 0, 0, "a.b 0 4", "")
	counted(t, r, 0, 2)
	ask(t, r, "A.B", 10, 0, "A.B 0 4", "")
	tick(t, r, 50, 0, "", "")
	counted(t, r, 0, 0)
	ask(t, r, "a.b", 51, 0, "", "1 a.b 53")

	r = fresh(t, server0, server1, server2)
	ask(t, r, "a.b", 0, 5, "", "5 a.b 53")
	tick(t, r, 49, 5, "", "")
	tick(t, r, 50, 5, "", "6 a.b 54")
	tick(t, r, 100, 100, "", "102 a.b 55")
	tick(t, r, 150, 65535, "", "2 a.b 53")
	tick(t, r, 199, 0, "", "")
	tick(t, r, 200, 0, "a.b 30", "")
	counted(t, r, 0, 0)
}

func TestP22_2Ask(t *testing.T) {
	r := fresh(t, server0)
	for _, s := range []string{"", ".", "a..b", "a.", strings.Repeat("x", 64), strings.Repeat("a.", 200) + "a"} {
		ask(t, r, s, 0, 0, s+" 9", "")
	}
	ask(t, r, "a.b", 0, -1, "", "65535 a.b 53")
	ask(t, r, "A.b", 5, 0, "", "")
	ask(t, r, "c", 5, 1<<16, "", "1 c 53")
	counted(t, r, 2, 0)
	for i := range 30 {
		r.Ask("n"+strconv.Itoa(i), 6, 0)
	}
	counted(t, r, 32, 0)
	ask(t, r, "one.more", 6, 0, "one.more 6", "")
	ask(t, r, "A.B", 6, 0, "", "")
	hear(t, r, answer(1, "c", 0, a("c", 5, 4)), 6, 0, "c 0 4", "")
	ask(t, r, "one.more", 6, 0, "", "32 one.more 53")
	ask(t, r, "C", 7, 0, "C 0 4", "")
}

func TestP22_3WhatIsIgnored(t *testing.T) {
	r := fresh(t, server0, server1)
	ask(t, r, "a.b", 0, 7, "", "7 a.b 53")
	good := answer(7, "a.b", 0, a("a.b", 5, 4))
	change := func(f func(d *api.Datagram)) api.Datagram {
		d := good
		f(&d)
		return d
	}
	message := func(f func(m *api.Message)) api.Datagram {
		m, _ := name.Decode(good.Data)
		f(&m)
		b, _ := name.Encode(m)
		return change(func(d *api.Datagram) { d.Data = b })
	}
	for i, d := range []api.Datagram{
		change(func(d *api.Datagram) { d.ToPort++ }),
		change(func(d *api.Datagram) { d.FromPort++ }),
		change(func(d *api.Datagram) { d.From = server1 }),
		change(func(d *api.Datagram) { d.From = server2 }),
		change(func(d *api.Datagram) { d.Data = d.Data[:20] }),
		message(func(m *api.Message) { m.Flags &^= api.Response }),
		message(func(m *api.Message) { m.Question = nil }),
		message(func(m *api.Message) { m.Question = append(m.Question, m.Question[0]) }),
		message(func(m *api.Message) { m.ID++ }),
		message(func(m *api.Message) { m.Question[0].Name = "a.c" }),
		message(func(m *api.Message) { m.Question[0].Type = api.TypeCNAME }),
		message(func(m *api.Message) { m.Question[0].Class = 3 }),
	} {
		if f, l := r.Hear(d, 1, 0); len(f) != 0 || len(l) != 0 {
			t.Error(i, f, l)
		}
		counted(t, r, 1, 0)
	}
	hear(t, r, message(func(m *api.Message) { m.Question[0].Name = "A.B" }), 1, 0, "a.b 0 4", "")
	hear(t, r, good, 1, 0, "", "")
}

func TestP22_3Codes(t *testing.T) {
	r := fresh(t, server0)
	ask(t, r, "a.b", 0, 7, "", "7 a.b 53")
	hear(t, r, answer(7, "a.b", api.NoSuch, a("a.b", 5, 4)), 1, 0, "a.b 7", "")
	counted(t, r, 0, 0)
	ask(t, r, "a.b", 2, 7, "", "8 a.b 53")
	hear(t, r, answer(8, "a.b", 2, a("a.b", 5, 4)), 10, 100, "", "102 a.b 53")
	tick(t, r, 59, 0, "", "")
	hear(t, r, answer(102, "a.b", 15), 59, 100, "", "103 a.b 53")
	hear(t, r, answer(103, "a.b", 1), 59, 100, "", "104 a.b 53")
	hear(t, r, answer(104, "a.b", 1), 59, 100, "a.b 30", "")
	counted(t, r, 0, 0)
	ask(t, r, "a.b", 60, 0, "", "5 a.b 53")
	hear(t, r, answer(5, "a.b", 0), 61, 0, "a.b 7", "")
	ask(t, r, "a.b", 62, 0, "", "6 a.b 53")
	hear(t, r, answer(6, "a.b", 0, a("other", 5, 4)), 62, 0, "a.b 7", "")
	ask(t, r, "other", 62, 0, "other 0 4", "")
	r = fresh(t, server0, server1)
	ask(t, r, "a.b", 0, 7, "", "7 a.b 53")
	hear(t, r, answer(7, "a.b", 2), 1, 0, "", "1 a.b 54")
}

func TestP22_3Cached(t *testing.T) {
	r := fresh(t, server0)
	get := func(now int, want string, l ...api.Record) {
		t.Helper()
		_, d := r.Ask("q", now, 0)
		m, _ := name.Decode(d[0].Data)
		hear(t, r, answer(m.ID, "q", 0, l...), now, 0, want, "")
	}
	other := a("q", 9, 9)
	other.Class = 3
	get(0, "q 0 1 2 3", a("q", 9, 1), other, a("Q", 3, 2), a("p", 1, 7), a("q", 5, 3))
	ask(t, r, "q", 29, 0, "q 0 1 2 3", "")
	ask(t, r, "p", 9, 0, "p 0 7", "")
	tick(t, r, 30, 0, "", "")
	counted(t, r, 0, 0)
	get(40, "q 0 1", a("q", 0, 1))
	tick(t, r, 40, 0, "", "")
	ask(t, r, "Q", 40, 0, "Q 0 1", "")
	tick(t, r, 41, 0, "", "")
	counted(t, r, 0, 0)
	get(50, "q 0 5", a("q", 9, 1), cname("q", 9, "s"), a("q", 9, 2), a("s", 9, 5))
	counted(t, r, 0, 2)
	tick(t, r, 1000, 0, "", "")
	get(1000, "q 0 5", cname("q", 9, "s"), a("s", 9, 5), cname("t", 9, "q"))
	ask(t, r, "t", 1001, 0, "t 0 5", "")
	get2 := r.cache.valid("s", 1001)
	if get2 == nil || get2.expires != 1090 {
		t.Error(get2)
	}
	r.cache.put(cached{of: "q", expires: math.MaxInt})
	if expiry(math.MaxInt-5, 1) != math.MaxInt {
		t.Error("the sum wraps")
	}
}

func TestP22_3OtherClasses(t *testing.T) {
	r := fresh(t, server0)
	r.Ask("q", 0, 0)
	other, alias := a("q", 9, 9), cname("q", 9, "s")
	other.Class, alias.Class = 3, 3
	hear(t, r, answer(0, "q", 0, other, alias), 0, 0, "q 7", "")
	counted(t, r, 0, 0)
}

func TestP22_3Full(t *testing.T) {
	r := fresh(t, server0)
	r.Ask("q", 0, 0)
	var l []api.Record
	for i := range 62 {
		l = append(l, a("n"+strconv.Itoa(i), 50+i%3, byte(i)))
	}
	l = append(l, a("q", 90, 1), cname("last", 90, "q"))
	hear(t, r, answer(0, "q", 0, l...), 0, 0, "q 0 1", "")
	counted(t, r, 0, 64)
	r.Ask("x", 1, 0)
	hear(t, r, answer(1, "x", 0, a("x", 90, 2), a("N3", 50, 9)), 1, 0, "x 0 2", "")
	counted(t, r, 0, 64)
	if r.cache.byName["n0"] != nil || r.cache.byName["n3"] == nil || r.cache.byName["n6"] == nil {
		t.Error("not the first of those with the least expiry was removed")
	}
	r.Ask("y", 1, 0)
	hear(t, r, answer(2, "y", 0, a("y", 90, 2), a("z", 1, 2)), 1, 0, "y 0 2", "")
	if r.cache.byName["n6"] != nil || r.cache.byName["n9"] != nil || r.cache.byName["n3"] == nil || r.cache.byName["z"] == nil {
		t.Error("not the right ones were removed")
	}
	r.Ask("w", 1, 0)
	hear(t, r, answer(3, "w", 0, a("w", 90, 2)), 1, 0, "w 0 2", "")
	if r.cache.byName["z"] != nil {
		t.Error("z should have gone")
	}
	counted(t, r, 0, 64)
}

func TestP22_3Follow(t *testing.T) {
	r := fresh(t, server0, server1)
	ask(t, r, "a", 0, 0, "", "0 a 53")
	tick(t, r, 50, 0, "", "1 a 54")
	d := answer(1, "a", 0, cname("A", 90, "B.c"))
	d.From = server1
	hear(t, r, d, 51, 0, "", "2 B.c 53")
	ask(t, r, "b.c", 52, 0, "", "3 b.c 53")
	hear(t, r, answer(2, "b.C", 0, cname("b.c", 90, "d")), 52, 0, "", "4 d 53")
	tick(t, r, 102, 0, "", "5 d 54, 6 b.c 54")
	d = answer(5, "d", 0, a("d", 90, 8))
	d.From = server1
	hear(t, r, d, 103, 0, "a 0 8", "")
	d = answer(6, "b.c", 0, a("x", 1, 1))
	d.From = server1
	hear(t, r, d, 103, 0, "b.c 0 8", "")
	tick(t, r, 104, 0, "", "")
	r = fresh(t, server0)
	ask(t, r, "a", 0, 0, "", "0 a 53")
	for i := 1; i < 4; i++ {
		tick(t, r, 50*i, 0, "", strconv.Itoa(i)+" a 53")
	}
	hear(t, r, answer(3, "a", 0, cname("a", 90, "b")), 150, 0, "", "4 b 53")
	tick(t, r, 200, 0, "", "5 b 53")
	tick(t, r, 250, 0, "", "6 b 53")
	tick(t, r, 300, 0, "", "7 b 53")
	tick(t, r, 350, 0, "a 30", "")
}

func TestP22_3Loop(t *testing.T) {
	r := fresh(t, server0)
	ask(t, r, "a", 0, 0, "", "0 a 53")
	hear(t, r, answer(0, "a", 0, cname("a", 9, "b"), cname("b", 9, "A")), 0, 0, "a 10", "")
	counted(t, r, 0, 2)
	ask(t, r, "b", 1, 0, "b 10", "")
	r = fresh(t, server0)
	var l []api.Record
	for i := range 8 {
		l = append(l, cname("n"+strconv.Itoa(i), 9, "n"+strconv.Itoa(i+1)))
	}
	ask(t, r, "n0", 0, 0, "", "0 n0 53")
	hear(t, r, answer(0, "n0", 0, append(l, a("n8", 9, 5))...), 0, 0, "n0 0 5", "")
	r = fresh(t, server0)
	ask(t, r, "n0", 0, 0, "", "0 n0 53")
	hear(t, r, answer(0, "n0", 0, append(l, cname("n8", 9, "n9"), a("n9", 9, 5))...), 0, 0, "n0 10", "")
	ask(t, r, "n1", 0, 0, "n1 0 5", "")
}

func TestP22_3TheFirstOfSeveral(t *testing.T) {
	r := fresh(t, server0)
	ask(t, r, "x", 0, 0, "", "0 x 53")
	ask(t, r, "y", 0, 0, "", "1 y 53")
	hear(t, r, answer(0, "x", 0, cname("x", 90, "z")), 0, 0, "", "2 z 53")
	hear(t, r, answer(1, "y", 0, cname("y", 90, "z")), 0, -1, "", "2 z 53")
	hear(t, r, answer(2, "z", 0, a("z", 90, 1)), 1, 0, "x 0 1", "")
	hear(t, r, answer(2, "z", 0, a("z", 90, 1)), 1, 0, "y 0 1", "")
}

func TestP22_4Tick(t *testing.T) {
	r := fresh(t, server0, server1)
	ask(t, r, "b", 0, 0, "", "0 b 53")
	ask(t, r, "a", 0, 0, "", "1 a 53")
	ask(t, r, "c", 10, 0, "", "2 c 53")
	tick(t, r, 50, 10, "", "13 b 54, 14 a 54")
	tick(t, r, 60, 0, "", "5 c 54")
	tick(t, r, 110, 0, "", "6 b 53, 7 a 53, 8 c 53")
	tick(t, r, 200, 0, "", "9 b 54, 10 a 54, 11 c 54")
	hear(t, r, func() api.Datagram {
		d := answer(10, "a", 2)
		d.From = server1
		return d
	}(), 201, 0, "a 30", "")
	tick(t, r, 250, 0, "b 30, c 30", "")
}

func TestP22_5OnlyWhatWasAnswered(t *testing.T) {
	x := uint32(1)
	draw := func(n int) int {
		x = x*1664525 + 1013904223
		return int(x>>8) % n
	}
	r := fresh(t, server0, server1)
	names := []string{"a", "b", "c", "d"}
	told := map[string]map[api.Addr]int{}
	var open []api.Datagram
	for now := range 3000 {
		f, d := r.Ask(names[draw(4)], now, draw(1<<16))
		open = append(open, d...)
		if draw(3) == 0 && len(open) > 0 {
			q, _ := name.Decode(open[len(open)-1].Data)
			l := []api.Record{a(names[draw(4)], draw(4), byte(now)), cname(names[draw(4)], draw(4), names[draw(4)])}
			l = append(l, a(q.Question[0].Name, draw(5), byte(now+1)))
			reply := answer(q.ID, q.Question[0].Name, 0, l...)
			reply.From = open[len(open)-1].To
			bad := a(q.Question[0].Name, 99, 9)
			bad.Data[0] = 9
			forged := answer((q.ID+1)%65536, q.Question[0].Name, 0, bad)
			r.Hear(forged, now, 0)
			for _, one := range l {
				if one.Type == api.TypeA {
					if told[one.Name] == nil {
						told[one.Name] = map[api.Addr]int{}
					}
					at := 0x01020300 | api.Addr(one.Data[3])
					told[one.Name][at] = max(told[one.Name][at], now+max(10*one.TTL, 1))
				}
			}
			g, d := r.Hear(reply, now, draw(1<<16))
			f = append(f, g...)
			open = append(open, d...)
		}
		g, d := r.Tick(now, draw(1<<16))
		f = append(f, g...)
		open = append(open, d...)
		for _, one := range f {
			for _, at := range one.Addrs {
				good := false
				for _, n := range names {
					good = good || told[n][at] > now
				}
				if !good {
					t.Fatal("an address that nobody told, or an old one:", one)
				}
			}
			if (one.Err == api.OK) != (len(one.Addrs) > 0) {
				t.Fatal(one)
			}
		}
		if asked, kept := r.Count(); asked > api.MaxThreads || kept > api.MaxCached || len(r.cache.byName) != kept {
			t.Fatal(asked, kept)
		}
	}
}

func TestP22_6Bounds(t *testing.T) {
	r := fresh(t, server0)
	for i := range 100 {
		_, d := r.Ask("n"+strconv.Itoa(i), i, 0)
		if i%3 == 0 && len(d) > 0 {
			m, _ := name.Decode(d[0].Data)
			var l []api.Record
			for k := range 50 {
				l = append(l, a("k"+strconv.Itoa(i*50+k), 99, 1))
			}
			r.Hear(answer(m.ID, m.Question[0].Name, 0, l...), i, 0)
		}
		if asked, kept := r.Count(); asked > api.MaxThreads || kept > api.MaxCached {
			t.Fatal(asked, kept)
		}
	}
	counted(t, r, 32, 64)
}

func TestP22_7NilAndMemory(t *testing.T) {
	var none *Resolver
	for _, r := range []*Resolver{none, {}} {
		ask(t, r, "a", 0, 0, "", "")
		hear(t, r, answer(0, "a", 0), 0, 0, "", "")
		tick(t, r, 0, 0, "", "")
		counted(t, r, 0, 0)
	}
	servers := []api.Addr{server0}
	r, _ := New(servers, port)
	servers[0] = server1
	ask(t, r, "a", 0, 0, "", "0 a 53")
	d := answer(0, "a", 0, a("a", 9, 4))
	f, _ := r.Hear(d, 0, 0)
	clear(d.Data)
	f[0].Addrs[0] = 0
	g, _ := r.Ask("a", 1, 0)
	if !slices.Equal(g[0].Addrs, []api.Addr{0x01020304}) {
		t.Error("memory is shared:", g)
	}
}
