package tally

import (
	"sync"
	"testing"

	"wharf/api"
)

func TestP2_1Names(t *testing.T) {
	want := []string{"frames in", "frames out", "not ours", "malformed", "arp asked", "arp lost", "fragments", "put together", "not routed", "icmp told", "icmp held", "udp in", "udp no port", "tcp in", "tcp sent again", "tcp reset", "dropped full"}
	var b Board
	if Count() != 17 || len(want) != 17 {
		t.Error("Count")
	}
	for n, name := range want {
		if b.Name(n) != name || b.Number(name) != n {
			t.Errorf("%d: %q, %d", n, b.Name(n), b.Number(name))
		}
	}
	for _, n := range []int{-1, 17, 1 << 40, -1 << 63} {
		if b.Name(n) != "" {
			t.Errorf("Name(%d) = %q", n, b.Name(n))
		}
	}
	for _, name := range []string{"", "x", "UDP in", "udp in ", "frames"} {
		if b.Number(name) != -1 {
			t.Errorf("Number(%q) = %d", name, b.Number(name))
		}
	}
}

func TestP2_2Add(t *testing.T) {
	var b Board
	for n := range Count() {
		if b.Get(n) != 0 {
			t.Error("not 0 at first")
		}
	}
	wrong := [][2]int{{-1, 1}, {17, 1}, {3, -1}, {3, 1 << 31}, {-1 << 63, 1}, {0, -1 << 63}}
	for _, w := range wrong {
		if b.Add(w[0], w[1]) != api.ErrArg {
			t.Errorf("Add(%d, %d)", w[0], w[1])
		}
	}
	if b.Get(3) != 0 {
		t.Error("a refused Add adds")
	}
	if b.Add(3, 5) != api.OK || b.Add(3, 0) != api.OK || b.Add(3, 1<<31-1) != api.OK || b.Get(3) != 5+1<<31-1 {
		t.Error(b.Get(3))
	}
	if b.Add(16, 2) != api.OK || b.Get(16) != 2 || b.Get(15) != 0 {
		t.Error("the last counter")
	}
}

func TestP2_2Most(t *testing.T) {
	var b Board
	b.counts[4].Store(1<<62 - 3)
	b.Add(4, 3)
	if b.Get(4) != 1<<62 {
		t.Error(b.Get(4))
	}
	for range 5 {
		b.Add(4, 1<<31-1)
	}
	if v := b.counts[4].Load(); v != 1<<62 {
		t.Error("the counter goes on:", v)
	}
	if b.Get(4) != 1<<62 || b.Take()[4] != 1<<62 || b.Get(4) != 0 {
		t.Error("above the limit")
	}
}

func TestP2_3Take(t *testing.T) {
	var b Board
	for n := range Count() {
		b.Add(n, n+1)
	}
	all := b.Take()
	if len(all) != 17 {
		t.Fatal(len(all))
	}
	for n, v := range all {
		if v != n+1 || b.Get(n) != 0 {
			t.Errorf("%d: %d", n, v)
		}
	}
	for _, n := range []int{-1, 17} {
		if b.Get(n) != 0 {
			t.Errorf("Get(%d)", n)
		}
	}
	all[0] = 99
	if next := b.Take(); next[0] != 0 || all[1] != 2 {
		t.Error("what Take answers is not new")
	}
}

func TestP2_4Spread(t *testing.T) {
	var b Board
	b.Add(3, 5)
	if b.Spread([][]int{{3, 4}, {3}}) != api.OK || b.Get(3) != 7 || b.Get(4) != 1 {
		t.Error(b.Get(3), b.Get(4))
	}
	for _, rows := range [][][]int{{{3, 4}, {17}}, {{3}, {-1, 3}}, {{3, 3, 3, 99}}} {
		if b.Spread(rows) != api.ErrArg || b.Get(3) != 7 || b.Get(4) != 1 {
			t.Errorf("%v: %d, %d", rows, b.Get(3), b.Get(4))
		}
	}
	if b.Spread(nil) != api.OK || b.Spread([][]int{nil, {}}) != api.OK {
		t.Error("nothing to add")
	}
}

func TestP2_5NothingIsLost(t *testing.T) {
	var b Board
	row := make([]int, 500)
	for i := range row {
		row[i] = i % 17
	}
	rows := make([][]int, 200)
	for i := range rows {
		rows[i] = row
	}
	taken := make([]int, 17)
	stop, done := make(chan struct{}), make(chan struct{})
	go func() {
		defer close(done)
		for {
			for n, v := range b.Take() {
				taken[n] += v
			}
			select {
			case <-stop:
				return
			default:
			}
		}
	}()
	if b.Spread(rows) != api.OK {
		t.Error("Spread")
	}
	close(stop)
	<-done
	for n := range 17 {
		want := 200 * (500 / 17)
		if n < 500%17 {
			want += 200
		}
		if taken[n]+b.Get(n) != want {
			t.Errorf("%d: %d, want %d", n, taken[n]+b.Get(n), want)
		}
	}
}

func TestP2_6ManyAtOneTime(t *testing.T) {
	var b Board
	var all sync.WaitGroup
	for i := range 8 {
		all.Add(1)
		go func() {
			defer all.Done()
			for range 1000 {
				b.Add(5, 2)
				if b.Number("arp lost") != 5 || b.Name(i) == "" {
					t.Error("a name while others ask")
				}
				b.Spread([][]int{{6}})
			}
		}()
	}
	all.Wait()
	if b.Get(5) != 16000 || b.Get(6) != 8000 {
		t.Error(b.Get(5), b.Get(6))
	}
	var none *Board
	if none.Add(0, 1) != api.ErrArg || none.Spread(nil) != api.ErrArg || none.Spread([][]int{{1}}) != api.ErrArg || none.Get(0) != 0 || len(none.Take()) != 0 || none.Name(0) != "" || none.Number("udp in") != -1 {
		t.Error("a nil Board")
	}
}
