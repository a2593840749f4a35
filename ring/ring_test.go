package ring

import (
	"bytes"
	"math"
	"testing"

	"wharf/api"
)

func TestP13_1Ring(t *testing.T) {
	for _, room := range []int{0, -1, api.MaxRecv + 1, math.MinInt} {
		if r, err := New(room); err != api.ErrArg || r != nil {
			t.Error(room, err)
		}
	}
	if r, err := New(api.MaxRecv); err != api.OK || r.Free() != api.MaxRecv || r.Len() != 0 {
		t.Error(err)
	}
	r, err := New(4)
	if err != api.OK || r.Write([]byte("abc")) != 3 || r.Drop(2) != 2 || r.Write([]byte("defg")) != 3 || string(r.Peek(1, 9)) != "def" || r.Free() != 0 || r.Len() != 4 {
		t.Error("the example")
	}
	for _, c := range []struct {
		at, n int
		want  string
	}{{0, 4, "cdef"}, {0, 1, "c"}, {1, 2, "de"}, {3, 1, "f"}, {3, math.MaxInt, "f"}, {4, 1, ""}, {5, 1, ""}, {-1, 3, ""}, {0, -1, ""}, {0, 0, ""}, {math.MaxInt, math.MaxInt, ""}, {math.MinInt, 2, ""}} {
		if got := r.Peek(c.at, c.n); string(got) != c.want {
			t.Errorf("Peek(%d, %d) = %q", c.at, c.n, got)
		}
	}
	if r.Write([]byte("x")) != 0 || r.Write(nil) != 0 || r.Drop(-1) != 0 || r.Drop(math.MinInt) != 0 || r.Drop(0) != 0 || r.Len() != 4 {
		t.Error("a full Ring")
	}
	if r.Drop(9) != 4 || r.Len() != 0 || r.Free() != 4 || r.Drop(1) != 0 || len(r.Peek(0, 1)) != 0 {
		t.Error("all dropped")
	}
}

func TestP13_2Put(t *testing.T) {
	var p Pieces
	put := func(ahead int, b, want string) {
		t.Helper()
		if got := p.Put(ahead, []byte(b)); string(got) != want {
			t.Errorf("Put(%d, %q) = %q, want %q", ahead, b, got, want)
		}
	}
	put(2, "cd", "")
	put(0, "ab", "abcd")
	put(1, "x", "")
	put(-1, "yz", "zx")
	put(0, "", "")
	put(5, "fgh", "")
	put(3, "DEFGHIJ", "")
	put(0, "ABCD", "ABCDEfghIJ")
	put(9, "9", "")
	put(1, "1", "")
	put(5, "5", "")
	put(0, "a", "a1")
	put(0, "bcdefghijk", "bcd5fgh9jk")
	put(-5, "abcde", "")
	put(-5, "abc", "")
	put(-5, "abcdeF", "F")
	put(api.MaxRecv, "x", "")
	put(api.MaxRecv+1, "x", "")
	put(-api.MaxRecv-1, "x", "")
	put(math.MaxInt, "x", "")
	put(math.MinInt, "x", "")
	if p.Held() != 0 {
		t.Error(p.Held())
	}
	long := bytes.Repeat([]byte("z"), api.MaxRecv+1)
	if got := p.Put(-api.MaxRecv, long); string(got) != "z" {
		t.Error(len(got))
	}
	if got := p.Put(-api.MaxRecv-1, append(long, 'z', 'z')); len(got) != 0 {
		t.Error(len(got))
	}
	put(api.MaxRecv-1, "pq", "")
	if p.Held() != 1 {
		t.Error("bytes at positions too far ahead are held")
	}
	if got := p.Put(0, long); len(got) != api.MaxRecv || got[api.MaxRecv-1] != 'p' || p.Held() != 0 {
		t.Error(len(got))
	}
}

func TestP13_3HeldAndFirst(t *testing.T) {
	var p Pieces
	first := func(ahead, many, held int) {
		t.Helper()
		if a, m := p.First(); a != ahead || m != many || p.Held() != held {
			t.Error(a, m, p.Held())
		}
	}
	first(0, 0, 0)
	p.Put(5, []byte("ab"))
	first(5, 2, 2)
	p.Put(9, []byte("ab"))
	first(5, 2, 4)
	p.Put(7, []byte("c"))
	first(5, 3, 5)
	p.Put(8, []byte("d"))
	first(5, 6, 6)
	p.Put(2, []byte("x"))
	first(2, 1, 7)
	p.Put(20, []byte("x"))
	p.Put(0, []byte("yyy"))
	first(2, 6, 7)
	p.Put(0, []byte("yy"))
	first(9, 1, 1)
}

func TestP13_4InOrder(t *testing.T) {
	x := uint32(1)
	draw := func(n int) int {
		x = x*1664525 + 1013904223
		return int(x>>8) % n
	}
	for _, room := range []int{1, 2, 7, 100} {
		r, _ := New(room)
		var want []byte
		next := byte(0)
		for range 2000 {
			p := make([]byte, draw(room+3))
			for i := range p {
				p[i] = next + byte(i)
			}
			n := r.Write(p)
			if n != min(len(p), room-len(want)) {
				t.Fatal(n)
			}
			next += byte(n)
			want = append(want, p[:n]...)
			at, k := draw(room+1), draw(room+2)
			if got := r.Peek(at, k); at <= len(want) && !bytes.Equal(got, want[at:min(at+k, len(want))]) {
				t.Fatal(got)
			}
			n = r.Drop(draw(room + 2))
			want = want[n:]
			if r.Len() != len(want) || r.Len()+r.Free() != room || !bytes.Equal(r.Peek(0, room), want) {
				t.Fatal("not what was written")
			}
		}
	}
}

func TestP13_5AnyOrder(t *testing.T) {
	x := uint32(1)
	draw := func(n int) int {
		x = x*1664525 + 1013904223
		return int(x>>8) % n
	}
	for range 100 {
		whole := make([]byte, 1+draw(300))
		for i := range whole {
			whole[i] = byte(draw(256))
		}
		present := make([]bool, len(whole))
		var p Pieces
		var got []byte
		for len(got) < len(whole) {
			from := draw(len(whole))
			to := min(from+draw(30), len(whole))
			for i := from; i < to; i++ {
				present[i] = true
			}
			got = append(got, p.Put(from-len(got), whole[from:to])...)
			n, held := 0, 0
			for n < len(whole) && present[n] {
				n++
			}
			for i := n; i < len(whole); i++ {
				if present[i] {
					held++
				}
			}
			if !bytes.Equal(got, whole[:n]) || p.Held() != held {
				t.Fatal(len(got), n, p.Held(), held)
			}
		}
	}
}

func TestP13_6MemoryAndNil(t *testing.T) {
	b := append(make([]byte, 0, 20), "abc"...)
	var p Pieces
	p.Put(1, b)
	b[0] = 'x'
	p.Put(4, b)
	out := p.Put(0, []byte("0"))
	if string(out) != "0abcxbc" || b[:4][3] != 0 {
		t.Errorf("%q", out)
	}
	p.Put(2, b)
	_ = append(out, "many more bytes"...)
	if got := p.Put(0, []byte("01")); string(got) != "01xbc" || string(out) != "0abcxbc" {
		t.Errorf("%q", got)
	}
	r, _ := New(3)
	r.Write(b)
	b[1] = 'y'
	peek := r.Peek(0, 3)
	peek[0] = 'z'
	if string(r.Peek(0, 3)) != "xbc" {
		t.Error("a Ring shares memory")
	}
	var zero Ring
	var none *Ring
	for _, r := range []*Ring{&zero, none} {
		if r.Write([]byte("a")) != 0 || r.Drop(1) != 0 || r.Len() != 0 || r.Free() != 0 || len(r.Peek(0, 1)) != 0 {
			t.Error("a zero or nil Ring")
		}
	}
	var nothing *Pieces
	if len(nothing.Put(0, []byte("a"))) != 0 || nothing.Held() != 0 {
		t.Error("a nil Pieces")
	}
	if a, m := nothing.First(); a != 0 || m != 0 {
		t.Error(a, m)
	}
}
