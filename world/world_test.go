package world

import (
	"bytes"
	"strconv"
	"strings"
	"testing"

	"wharf/api"
	"wharf/ether"
)

const (
	addr0 = api.Addr(0x0a000001)
	addr1 = api.Addr(0x0a000002)
)

func config(i int) api.HostConfig {
	return api.HostConfig{MAC: api.MAC{2, 0, 0, 0, 0, byte(i + 1)}, Addr: addr0 + api.Addr(i), Bits: 24}
}

func fresh(t *testing.T) *World {
	t.Helper()
	w, err := New(config(0), config(1))
	if err != api.OK {
		t.Fatal(err)
	}
	return w
}

// text is Returns as text.
func text(l []api.Return, of []int) string {
	var out []string
	for i, r := range l {
		x := strconv.Itoa(of[i]) + "." + strconv.Itoa(r.Thread)
		if r.Err != api.OK {
			x += "!" + strconv.Itoa(int(r.Err))
		}
		if r.N != 0 {
			x += " n" + strconv.Itoa(r.N)
		}
		if len(r.Data) > 0 {
			x += " " + string(r.Data)
		}
		out = append(out, x)
	}
	return strings.Join(out, ", ")
}

func do(t *testing.T, w *World, s api.Step, want string, wantErr api.Errno) {
	t.Helper()
	l, of, err := w.Do(s)
	if got := text(l, of); got != want || err != wantErr {
		t.Errorf("step %d: %q, %v; want %q, %v", s.Kind, got, err, want, wantErr)
	}
}

func call(host int, c api.Call) api.Step {
	return api.Step{Kind: api.StepCall, Host: host, Call: c}
}

func settle(t *testing.T, w *World, ticks int, want string) {
	t.Helper()
	l, of := w.Settle(ticks)
	if got := text(l, of); got != want {
		t.Errorf("settle: %q, want %q", got, want)
	}
}

// joined is a world with a connection: socket 0 of host 0, socket 1 of host 1.
func joined(t *testing.T) *World {
	t.Helper()
	w := fresh(t)
	do(t, w, call(1, api.Call{Kind: api.CallSocket, N: 6}), "1.0", 0)
	do(t, w, call(1, api.Call{Kind: api.CallBind, Port: 80}), "1.0", 0)
	do(t, w, call(1, api.Call{Kind: api.CallListen, N: 3}), "1.0", 0)
	do(t, w, call(1, api.Call{Kind: api.CallAccept}), "", 0)
	do(t, w, call(0, api.Call{Kind: api.CallSocket, N: 6}), "0.0", 0)
	do(t, w, call(0, api.Call{Kind: api.CallConnect, Addr: addr1, Port: 80}), "", 0)
	settle(t, w, 5, "0.0, 1.0 n1")
	return w
}

func TestP24_1New(t *testing.T) {
	bad, worse := config(0), config(0)
	bad.MAC[0] = 1
	worse.Bits = 40
	for _, c := range [][2]api.HostConfig{{bad, config(1)}, {config(0), worse}, {bad, worse}} {
		if w, err := New(c[0], c[1]); err != api.ErrArg || w != nil {
			t.Error(c, err)
		}
	}
	w := fresh(t)
	to, frames := w.Flight()
	if w.Now() != 0 || len(to) != 0 || len(frames) != 0 {
		t.Error("a new world")
	}
}

func TestP24_2Wrong(t *testing.T) {
	w := fresh(t)
	for _, s := range []api.Step{{}, {Kind: -1}, {Kind: 7}, {Kind: 1 << 40}, call(2, api.Call{}), call(-1, api.Call{}), {Kind: api.StepTick}, {Kind: api.StepTick, N: -1}, {Kind: api.StepTick, N: 1<<20 + 1}} {
		do(t, w, s, "", api.ErrArg)
	}
	for _, kind := range []int{api.StepGive, api.StepLose, api.StepTwice, api.StepAlter} {
		do(t, w, api.Step{Kind: kind}, "", api.ErrNone)
		do(t, w, api.Step{Kind: kind, At: -1}, "", api.ErrNone)
	}
	do(t, w, call(0, api.Call{Kind: api.CallSocket, N: 17}), "0.0", 0)
	do(t, w, call(0, api.Call{Kind: api.CallSendTo, Addr: addr1, Port: 9}), "0.0", 0)
	for _, kind := range []int{api.StepGive, api.StepLose, api.StepTwice, api.StepAlter} {
		do(t, w, api.Step{Kind: kind, At: 1}, "", api.ErrNone)
		do(t, w, api.Step{Kind: kind, At: -1}, "", api.ErrNone)
	}
	do(t, w, api.Step{Kind: api.StepAlter, N: 60, By: 1}, "", api.ErrNone)
	do(t, w, api.Step{Kind: api.StepAlter, N: -1, By: 1}, "", api.ErrNone)
	do(t, w, api.Step{Kind: api.StepAlter, N: 59, By: 1}, "", api.OK)
	do(t, w, api.Step{Kind: api.StepAlter, N: 0, By: 1}, "", api.OK)
	do(t, w, api.Step{Kind: api.StepTick, N: 1 << 20}, "", api.OK)
	if w.Now() != 1<<20 {
		t.Error(w.Now())
	}
}

func TestP24_2Draws(t *testing.T) {
	w := fresh(t)
	for _, want := range []int{1, 1103527590, 377401575, 662824084} {
		if got := w.draw(); got != want {
			t.Error(got, want)
		}
	}
	w.last = 0
	if w.draw() != 1 {
		t.Error("behind a draw of 0")
	}
	w = fresh(t)
	do(t, w, call(1, api.Call{Kind: api.CallSocket, N: 17}), "1.0", 0)
	do(t, w, api.Step{Kind: api.StepTick, N: 1}, "", 0)
	do(t, w, call(1, api.Call{Kind: api.CallBind, Draw: 5}), "1.0", 0)
	l, _, _ := w.Do(call(1, api.Call{Kind: api.CallName}))
	if l[0].Port != api.FirstFree+662824084%(65536-api.FirstFree) {
		t.Error(l)
	}
}

func TestP24_2Frames(t *testing.T) {
	w := fresh(t)
	do(t, w, call(0, api.Call{Kind: api.CallSocket, N: 17}), "0.0", 0)
	do(t, w, call(1, api.Call{Kind: api.CallSocket, N: 17}), "1.0", 0)
	do(t, w, call(1, api.Call{Kind: api.CallBind, Port: 9}), "1.0", 0)
	do(t, w, call(1, api.Call{Kind: api.CallRecvFrom, N: 100, Thread: 4}), "", 0)
	do(t, w, call(0, api.Call{Kind: api.CallSendTo, Addr: addr1, Port: 9, Data: []byte("abc")}), "0.0 n3", 0)
	to, frames := w.Flight()
	if len(to) != 1 || to[0] != 1 {
		t.Fatal(to)
	}
	if f, err := ether.Decode(frames[0]); err != api.OK || f.Kind != api.KindARP {
		t.Error(f, err)
	}
	do(t, w, api.Step{Kind: api.StepTwice}, "", 0)
	do(t, w, api.Step{Kind: api.StepAlter, At: 1, N: 12, By: 0xff}, "", 0)
	_, frames = w.Flight()
	if len(frames) != 2 || frames[0][12] != 8 || frames[1][12] != 8^0xff {
		t.Error("the copy is altered too, or not at all")
	}
	do(t, w, api.Step{Kind: api.StepLose, At: 1}, "", 0)
	do(t, w, api.Step{Kind: api.StepGive}, "", 0)
	to, _ = w.Flight()
	if len(to) != 1 || to[0] != 0 {
		t.Error("no answer:", to)
	}
	do(t, w, api.Step{Kind: api.StepGive}, "", 0)
	do(t, w, api.Step{Kind: api.StepGive}, "1.4 n3 abc", 0)
	if to, _ := w.Flight(); len(to) != 0 {
		t.Error(to)
	}
}

func TestP24_2Order(t *testing.T) {
	w := fresh(t)
	do(t, w, call(0, api.Call{Kind: api.CallSocket, N: 17}), "0.0", 0)
	do(t, w, call(0, api.Call{Kind: api.CallSendTo, Addr: addr1, Port: 9, Data: []byte("abc")}), "0.0 n3", 0)
	w.Settle(0)
	for i := range 3 {
		do(t, w, call(0, api.Call{Kind: api.CallSendTo, Addr: addr1, Port: 9, Data: []byte{byte(i)}}), "0.0 n1", 0)
	}
	last := func() string {
		_, frames := w.Flight()
		out := ""
		for _, b := range frames {
			out += strconv.Itoa(int(b[42]))
		}
		return out
	}
	if last() != "012" {
		t.Fatal(last())
	}
	do(t, w, api.Step{Kind: api.StepTwice, At: 1}, "", 0)
	if last() != "0121" {
		t.Error(last())
	}
	do(t, w, api.Step{Kind: api.StepLose, At: 1}, "", 0)
	if last() != "021" {
		t.Error(last())
	}
	do(t, w, api.Step{Kind: api.StepGive, At: 2}, "", 0)
	if last()[:2] != "02" {
		t.Error(last())
	}
}

func TestP24_2Full(t *testing.T) {
	w := fresh(t)
	do(t, w, call(0, api.Call{Kind: api.CallSocket, N: 17}), "0.0", 0)
	for i := range 300 {
		do(t, w, call(0, api.Call{Kind: api.CallSendTo, Addr: api.Broadcast, Port: 9, Data: []byte{byte(i)}}), "0.0 n1", 0)
	}
	to, frames := w.Flight()
	if len(to) != api.MaxFlight || len(frames) != api.MaxFlight || frames[255][42] != 255 {
		t.Error(len(to))
	}
	do(t, w, api.Step{Kind: api.StepTwice}, "", api.ErrFull)
	do(t, w, api.Step{Kind: api.StepTwice, At: 256}, "", api.ErrNone)
	do(t, w, api.Step{Kind: api.StepLose}, "", 0)
	do(t, w, api.Step{Kind: api.StepTwice}, "", 0)
}

func TestP24_3FlightAndNow(t *testing.T) {
	w := fresh(t)
	do(t, w, api.Step{Kind: api.StepTick, N: 5}, "", 0)
	do(t, w, api.Step{Kind: api.StepTick, N: 7}, "", 0)
	if w.Now() != 12 {
		t.Error(w.Now())
	}
	do(t, w, call(0, api.Call{Kind: api.CallSocket, N: 17}), "0.0", 0)
	do(t, w, call(0, api.Call{Kind: api.CallSendTo, Addr: addr1, Port: 9}), "0.0", 0)
	_, frames := w.Flight()
	frames[0][0] = 99
	if _, again := w.Flight(); again[0][0] == 99 {
		t.Error("Flight hands out what is kept")
	}
	do(t, w, api.Step{Kind: api.StepTick, N: 9}, "", 0)
	if to, _ := w.Flight(); len(to) != 1 {
		t.Error(to)
	}
	do(t, w, api.Step{Kind: api.StepTick, N: 1}, "", 0)
	if to, _ := w.Flight(); len(to) != 2 {
		t.Error("the tick of the call was not the world's:", to)
	}
}

func TestP24_4Settle(t *testing.T) {
	w := fresh(t)
	do(t, w, call(0, api.Call{Kind: api.CallSocket, N: 17}), "0.0", 0)
	do(t, w, call(0, api.Call{Kind: api.CallSendTo, Addr: addr1, Port: 9, Data: []byte("abc")}), "0.0 n3", 0)
	settle(t, w, 0, "")
	if to, _ := w.Flight(); len(to) != 0 || w.Now() != 0 {
		t.Error(to, w.Now())
	}
	settle(t, w, -5, "")
	settle(t, w, 3, "")
	if w.Now() != 3 {
		t.Error(w.Now())
	}
	settle(t, w, 1<<12+1, "")
	if w.Now() != 3+1<<12 {
		t.Error(w.Now())
	}
}

func TestP24_4SoManyBetweenTicks(t *testing.T) {
	// Each side has sent two segments, which arrive, while all acknowledgements of them are lost. Then both go back to the first one, and as chapter 17 has it, each side answers every segment of the other one, as it is none that fits: frames without end.
	w := joined(t)
	data := make([]byte, 5000)
	do(t, w, call(0, api.Call{Kind: api.CallSend, Data: data}), "0.0 n5000", 0)
	do(t, w, call(1, api.Call{Kind: api.CallSend, Fd: 1, Data: data}), "1.0 n5000", 0)
	for range 4 {
		do(t, w, api.Step{Kind: api.StepGive}, "", 0)
	}
	to, _ := w.Flight()
	if len(to) != 2 {
		t.Fatal(to)
	}
	do(t, w, api.Step{Kind: api.StepLose}, "", 0)
	do(t, w, api.Step{Kind: api.StepLose}, "", 0)
	do(t, w, api.Step{Kind: api.StepTick, N: api.MinRTO}, "", 0)
	if to, _ := w.Flight(); len(to) != 2 {
		t.Fatal(to)
	}
	taken := func() int { return w.sides[0].Host().Count(0) + w.sides[1].Host().Count(0) }
	for _, ticks := range []int{0, 1, 3} {
		before := taken()
		w.Settle(ticks)
		if n := taken() - before; n != 1024*(ticks+1) {
			t.Error(ticks, n)
		}
	}
}

func TestTheExample(t *testing.T) {
	w := joined(t)
	do(t, w, call(0, api.Call{Kind: api.CallSend, Data: []byte("ab")}), "0.0 n2", 0)
	do(t, w, call(0, api.Call{Kind: api.CallClose}), "0.0", 0)
	do(t, w, call(1, api.Call{Kind: api.CallRecv, Fd: 1, N: 9}), "", 0)
	settle(t, w, 5, "1.0 n2 ab")
	do(t, w, call(1, api.Call{Kind: api.CallRecv, Fd: 1, N: 9}), "1.0", 0)
}

// rough is a wire that loses, repeats, turns round and alters frames.
type rough struct {
	t    *testing.T
	w    *World
	x    uint32
	sent [2][]byte
	got  [2][]byte
	done [2]bool // the end was reported
	shut [2]bool
}

func (r *rough) draw(n int) int {
	r.x = r.x*1664525 + 1013904223
	return int(r.x>>8) % n
}

// take looks at what returns: thread 0 sends, thread 1 receives, thread 2 shuts.
func (r *rough) take(l []api.Return, of []int) {
	for i, one := range l {
		switch {
		case one.Thread == 0 && one.Err == api.OK && !r.shut[of[i]]:
		case one.Thread == 1 && one.Err == api.OK && one.N == 0:
			r.done[of[i]] = true
		case one.Thread == 1 && one.Err == api.OK:
			r.got[of[i]] = append(r.got[of[i]], one.Data...)
		}
		if !bytes.HasPrefix(r.sent[1-of[i]], r.got[of[i]]) {
			r.t.Fatal("not the first bytes that were sent")
		}
		if r.done[of[i]] && (!r.shut[1-of[i]] || len(r.got[of[i]]) != len(r.sent[1-of[i]])) {
			r.t.Fatal("the end before all bytes")
		}
	}
}

func (r *rough) do(s api.Step) api.Errno {
	l, of, err := r.w.Do(s)
	r.take(l, of)
	return err
}

// talk has both sides send and receive, without waiting for more room than there is.
func (r *rough) talk(most [2]int) {
	for i := range 2 {
		if n := min(most[i]-len(r.sent[i]), 1+r.draw(900)); n > 0 {
			p := make([]byte, n)
			for k := range p {
				p[k] = byte(r.draw(256))
			}
			l, of, _ := r.w.Do(call(i, api.Call{Kind: api.CallSend, Fd: i, Data: p}))
			for k, one := range l {
				if of[k] == i && one.Thread == 0 && one.Err == api.OK {
					r.sent[i] = append(r.sent[i], p[:one.N]...)
				}
			}
			r.take(l, of)
		} else if n == 0 && !r.shut[i] {
			r.shut[i] = true
			r.do(call(i, api.Call{Kind: api.CallShut, Fd: i, Thread: 2}))
		}
		if !r.done[i] {
			r.do(call(i, api.Call{Kind: api.CallRecv, Fd: i, Thread: 1, N: 1 + r.draw(2000)}))
		}
	}
}

func TestP24_5And6Streams(t *testing.T) {
	for seed := range uint32(30) {
		r := &rough{t: t, w: joined(t), x: seed}
		for i := range 2 {
			r.do(call(i, api.Call{Kind: api.CallOption, Fd: i, N: api.OptNoBlock, Port: 1}))
		}
		// As chapter 17 has it, two sides that both go back take no more of each other; so one of them says little where frames are lost.
		most := [2]int{3000 + r.draw(20000), 1 + r.draw(500)}
		losses := int(seed % 3 * 10)
		for range 150 {
			r.talk(most)
			to, _ := r.w.Flight()
			for range len(to) {
				n, _ := r.w.Flight()
				if len(n) == 0 {
					break
				}
				at := r.draw(min(len(n), 4))
				switch {
				case r.draw(100) < losses:
					r.do(api.Step{Kind: api.StepLose, At: at})
				case r.draw(100) < losses:
					r.do(api.Step{Kind: api.StepTwice, At: at})
				default:
					r.do(api.Step{Kind: api.StepGive, At: at})
				}
			}
			r.do(api.Step{Kind: api.StepTick, N: 1})
		}
		start := r.w.Now()
		limit := ((most[0]+most[1])/536 + 20) * api.MaxRTO
		for !(r.done[0] && r.done[1]) {
			r.talk(most)
			r.take(r.w.Settle(1))
			if r.w.Now()-start > limit {
				t.Fatal(seed, "it takes too long", len(r.got[0]), len(r.got[1]), most)
			}
		}
		if len(r.got[1]) != most[0] || len(r.got[0]) != most[1] {
			t.Fatal(seed, len(r.got[1]), len(r.got[0]))
		}
		for i := range 2 {
			conn := 1 + i // the first number of host 1 is the listener's
			hub := r.w.sides[i].Host().Hub()
			for state, _ := hub.State(conn); state != api.Closed; state, _ = hub.State(conn) {
				r.take(r.w.Settle(1))
				if r.w.Now()-start > limit {
					t.Fatal(seed, i, "the connection does not end", state)
				}
			}
			if _, err := hub.State(conn); err != api.OK {
				t.Error(seed, i, err)
			}
		}
	}
}

func TestP24_7Altered(t *testing.T) {
	for seed := range uint32(20) {
		r := &rough{t: t, w: joined(t), x: seed}
		for i := range 2 {
			r.do(call(i, api.Call{Kind: api.CallOption, Fd: i, N: api.OptNoBlock, Port: 1}))
		}
		most := [2]int{5000, 300}
		for range 400 {
			r.talk(most)
			to, frames := r.w.Flight()
			if len(to) > 0 && r.draw(4) == 0 {
				at := r.draw(len(to))
				// Behind the two addresses and the kind, every byte of a TCP packet that is not padding is under a sum.
				total := int(frames[at][16])<<8 | int(frames[at][17])
				if frames[at][13] == 0 && total+14 <= len(frames[at]) {
					r.do(api.Step{Kind: api.StepTwice, At: at})
					to, _ := r.w.Flight()
					r.do(api.Step{Kind: api.StepAlter, At: len(to) - 1, N: 14 + r.draw(total), By: byte(1 + r.draw(255))})
					r.do(api.Step{Kind: api.StepGive, At: len(to) - 1})
				}
			}
			r.take(r.w.Settle(1))
		}
		if len(r.got[1]) != most[0] || len(r.got[0]) != most[1] || !r.done[0] || !r.done[1] {
			t.Fatal(seed, len(r.got[1]), len(r.got[0]), r.done)
		}
	}
}

func TestP24_7AnyBytes(t *testing.T) {
	for seed := range uint32(10) {
		r := &rough{t: t, w: joined(t), x: seed}
		r.do(call(0, api.Call{Kind: api.CallSend, Data: make([]byte, 9000)}))
		for range 3000 {
			to, frames := r.w.Flight()
			if len(to) == 0 {
				r.w.Do(call(r.draw(2), api.Call{Kind: api.CallSend, Fd: r.draw(2), Thread: 3, Data: []byte("x")}))
				r.w.Do(api.Step{Kind: api.StepTick, N: 10})
				continue
			}
			at := r.draw(len(to))
			for range r.draw(4) {
				r.w.Do(api.Step{Kind: api.StepAlter, At: at, N: r.draw(len(frames[at])), By: byte(r.draw(256))})
			}
			if r.draw(3) == 0 {
				r.w.Do(api.Step{Kind: api.StepTwice, At: at})
			}
			r.w.Do(api.Step{Kind: api.StepGive, At: at})
		}
	}
}

func TestP24_8NilAndCopies(t *testing.T) {
	var none *World
	if l, of, err := none.Do(call(0, api.Call{})); len(l) != 0 || len(of) != 0 || err != api.ErrArg {
		t.Error(err)
	}
	if to, frames := none.Flight(); len(to) != 0 || len(frames) != 0 || none.Now() != 0 {
		t.Error("a nil World")
	}
	if l, of := none.Settle(5); len(l) != 0 || len(of) != 0 {
		t.Error(l)
	}
	var zero World
	for kind := range 8 {
		zero.Do(api.Step{Kind: kind, N: 5})
	}
	zero.Settle(5)
	a := joined(t)
	b := *a
	do(t, &b, call(0, api.Call{Kind: api.CallSend, Data: []byte("ab")}), "0.0 n2", 0)
	l, of := b.Settle(5)
	if len(l) != 0 || len(of) != 0 {
		t.Error(l)
	}
	do(t, &b, call(1, api.Call{Kind: api.CallRecv, Fd: 1, N: 9}), "1.0 n2 ab", 0)
}
