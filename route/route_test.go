package route

import (
	"slices"
	"testing"

	"wharf/api"
)

func addr(a, b, c, d int) api.Addr { return api.Addr(a<<24 | b<<16 | c<<8 | d) }

func TestP8_1Add(t *testing.T) {
	var table Table
	for i, c := range []struct {
		r    api.Route
		want api.Errno
	}{
		{api.Route{Net: addr(10, 0, 0, 1), Bits: 8}, api.ErrArg},
		{api.Route{Net: 0, Bits: -1}, api.ErrArg},
		{api.Route{Net: 0, Bits: 33}, api.ErrArg},
		{api.Route{Net: 0, Bits: 1 << 62}, api.ErrArg},
		{api.Route{Net: 0, Metric: -1}, api.ErrArg},
		{api.Route{Net: 1, Bits: 0}, api.ErrArg},
		{api.Route{Net: 1 << 31, Bits: 0}, api.ErrArg},
		{api.Route{Net: 0, Bits: 0}, api.OK},
		{api.Route{Net: 0xffffffff, Bits: 32}, api.OK},
		{api.Route{Net: 1 << 31, Bits: 1}, api.OK},
		{api.Route{Net: addr(10, 0, 0, 0), Bits: 8, Metric: 5, Via: 1}, api.OK},
		{api.Route{Net: addr(10, 0, 0, 0), Bits: 8, Metric: 5, Via: 2}, api.ErrExists},
		{api.Route{Net: addr(10, 0, 0, 0), Bits: 8, Metric: 4, Via: 2}, api.OK},
		{api.Route{Net: addr(10, 0, 0, 0), Bits: 9, Metric: 5, Via: 2}, api.OK},
		{api.Route{Net: addr(11, 0, 0, 0), Bits: 8, Metric: 5, Via: 2}, api.OK},
	} {
		if err := table.Add(c.r); err != c.want {
			t.Errorf("%d: %v, want %v", i, err, c.want)
		}
	}
	if n := len(table.All()); n != 7 {
		t.Error(n)
	}
}

func TestP8_1Full(t *testing.T) {
	var table Table
	for i := range api.MaxRoutes {
		if table.Add(api.Route{Net: api.Addr(i) << 8, Bits: 24}) != api.OK {
			t.Fatal(i)
		}
	}
	if table.Add(api.Route{Net: 1}) != api.ErrArg || table.Add(api.Route{Bits: 24}) != api.ErrExists || table.Add(api.Route{}) != api.ErrFull || len(table.All()) != api.MaxRoutes {
		t.Error("more routes than may be")
	}
	if table.Remove(api.Route{Bits: 24}) != api.OK || table.Add(api.Route{}) != api.OK {
		t.Error("no room behind a Remove")
	}
}

func TestP8_2Remove(t *testing.T) {
	var table Table
	r := api.Route{Net: addr(10, 1, 0, 0), Bits: 16, Via: 5, Metric: 3}
	table.Add(r)
	for _, x := range []api.Route{{}, {Net: r.Net, Bits: 16, Metric: 2}, {Net: r.Net, Bits: 17, Metric: 3}, {Net: r.Net, Bits: 15, Metric: 3}, {Net: addr(10, 2, 0, 0), Bits: 16, Metric: 3}, {Bits: -1}, {Bits: 99}, {Net: r.Net | 1, Bits: 16, Metric: 3}, {Metric: -4}} {
		if table.Remove(x) != api.ErrNone || len(table.All()) != 1 {
			t.Error(x)
		}
	}
	r.Via = 99
	if table.Remove(r) != api.OK || len(table.All()) != 0 || table.Remove(r) != api.ErrNone {
		t.Error("Via is not ignored")
	}
	if table.root != nil {
		t.Error("an empty tree keeps nodes")
	}
}

func TestP8_3Find(t *testing.T) {
	var table Table
	if r, err := table.Find(0); err != api.ErrNone || r != (api.Route{}) {
		t.Error(r, err)
	}
	table.Add(api.Route{Net: addr(10, 0, 0, 0), Bits: 8, Via: 1})
	if r, err := table.Find(addr(11, 0, 0, 0)); err != api.ErrNone || r != (api.Route{}) {
		t.Error(r, err)
	}
	table.Add(api.Route{Net: addr(10, 1, 0, 0), Bits: 16, Via: 9, Metric: 7})
	table.Add(api.Route{Net: addr(10, 1, 0, 0), Bits: 16, Via: 2, Metric: 6})
	table.Add(api.Route{Via: 3})
	table.Add(api.Route{Net: addr(10, 1, 2, 3), Bits: 32, Via: 4, Metric: 50})
	for a, via := range map[api.Addr]api.Addr{addr(10, 1, 2, 3): 4, addr(10, 1, 2, 2): 2, addr(10, 2, 0, 1): 1, addr(1, 1, 1, 1): 3, 0xffffffff: 3} {
		if r, err := table.Find(a); err != api.OK || r.Via != via {
			t.Error(a, r, err)
		}
	}
}

func TestP8_4All(t *testing.T) {
	var table Table
	want := []api.Route{
		{Net: 5, Bits: 32},
		{Net: 0xffffffff, Bits: 32},
		{Net: addr(10, 0, 0, 0), Bits: 16, Metric: 1, Via: 8},
		{Net: addr(10, 0, 0, 0), Bits: 16, Metric: 2, Via: 7},
		{Net: addr(200, 0, 0, 0), Bits: 16, Metric: 0},
		{Net: 0, Bits: 1},
		{Net: 1 << 31, Bits: 1},
		{Metric: 1},
		{Metric: 9},
	}
	for _, i := range []int{8, 3, 0, 5, 6, 2, 1, 7, 4} {
		if table.Add(want[i]) != api.OK {
			t.Fatal(i)
		}
	}
	if got := table.All(); !slices.Equal(got, want) {
		t.Error(got)
	}
}

func TestP8_5FirstThatMatches(t *testing.T) {
	x := uint32(1)
	draw := func(n int) int {
		x = x*1664525 + 1013904223
		return int(x>>8) % n
	}
	random := func() api.Route {
		bits := draw(33)
		net := api.Addr(draw(16))<<28 | api.Addr(draw(4))<<20 | api.Addr(draw(4))
		if bits < 32 {
			net = net >> (32 - bits) << (32 - bits)
		}
		return api.Route{Net: net, Bits: bits, Metric: draw(3), Via: api.Addr(draw(1000))}
	}
	var table Table
	for range 3000 {
		before := table.All()
		r := random()
		if draw(3) == 0 && len(before) > 0 {
			table.Remove(before[draw(len(before))])
			before = table.All()
		}
		if table.Add(r) == api.OK {
			table.Remove(r)
			if !slices.Equal(table.All(), before) {
				t.Fatal("Add and Remove leave something")
			}
			table.Add(r)
		}
		a := api.Addr(draw(16))<<28 | api.Addr(draw(4))<<20 | api.Addr(draw(4))
		got, err := table.Find(a)
		want, ok := api.Route{}, false
		for _, r := range table.All() {
			if r.Bits == 0 || a>>(32-r.Bits) == r.Net>>(32-r.Bits) {
				want, ok = r, true
				break
			}
		}
		if got != want || (err == api.OK) != ok {
			t.Fatal(got, want, err)
		}
	}
}

func TestP8_6Nil(t *testing.T) {
	var none *Table
	if none.Add(api.Route{}) != api.ErrArg || none.Remove(api.Route{}) != api.ErrArg || len(none.All()) != 0 {
		t.Error("a nil Table")
	}
	if r, err := none.Find(1); err != api.ErrNone || r != (api.Route{}) {
		t.Error(r, err)
	}
	var table Table
	table.Add(api.Route{Via: 1})
	all := table.All()
	all[0].Via = 2
	if r, _ := table.Find(0); r.Via != 1 || table.All()[0].Via != 1 {
		t.Error("All hands out the Table's memory")
	}
}
