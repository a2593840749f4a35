package wheel

import (
	"slices"
	"testing"

	"wharf/api"
)

func TestP3_1Set(t *testing.T) {
	var w Wheel
	if w.Len() != 0 {
		t.Error("a zero Wheel has timers")
	}
	for _, at := range []int{-1, api.MaxTick + 1, -1 << 63, 1<<63 - 1} {
		if w.Set(1, at) != api.ErrArg || w.Len() != 0 {
			t.Errorf("Set at %d", at)
		}
	}
	if w.Set(-5, 0) != api.OK || w.Set(5, api.MaxTick) != api.OK || w.Len() != 2 {
		t.Error("the first and the last tick")
	}
	if at, ok := w.At(5); at != api.MaxTick || !ok {
		t.Error(at, ok)
	}
	if w.Set(5, 3) != api.OK || w.Len() != 2 {
		t.Error("a key has two timers")
	}
	if at, ok := w.At(5); at != 3 || !ok {
		t.Error(at, ok)
	}
}

func TestP3_1Full(t *testing.T) {
	var w Wheel
	for k := range api.MaxTimers {
		if w.Set(k, k%7) != api.OK {
			t.Fatal(k)
		}
	}
	if w.Set(1000, 1) != api.ErrFull || w.Set(1000, -1) != api.ErrArg || w.Len() != api.MaxTimers {
		t.Error("more than fit")
	}
	if w.Set(7, 900) != api.OK || w.Len() != api.MaxTimers {
		t.Error("a timer is not replaced when all are there")
	}
	if _, ok := w.At(1000); ok {
		t.Error("the refused timer is there")
	}
	if !w.Cancel(3) || w.Set(1000, 1) != api.OK {
		t.Error("no room behind a Cancel")
	}
	if got := w.Due(899); len(got) != api.MaxTimers-1 || w.Len() != 1 || w.Set(3, 1) != api.OK {
		t.Error("no room behind a Due")
	}
}

func TestP3_2CancelAtNext(t *testing.T) {
	var w Wheel
	if at, ok := w.Next(); at != 0 || ok {
		t.Error("Next of none")
	}
	w.Set(5, 10)
	w.Set(3, 10)
	w.Set(4, 7)
	if at, ok := w.Next(); at != 7 || !ok {
		t.Error(at, ok)
	}
	if at, ok := w.At(9); at != 0 || ok {
		t.Error("At of none")
	}
	if !w.Cancel(4) || w.Cancel(4) || w.Len() != 2 {
		t.Error("Cancel")
	}
	if at, ok := w.Next(); at != 10 || !ok {
		t.Error(at, ok)
	}
	if at, ok := w.At(4); at != 0 || ok {
		t.Error("At of a cancelled one")
	}
	w.Set(9, api.MaxTick)
	w.Cancel(3)
	w.Cancel(5)
	if at, ok := w.Next(); at != api.MaxTick || !ok {
		t.Error(at, ok)
	}
}

func TestP3_3Due(t *testing.T) {
	var w Wheel
	w.Set(5, 10)
	w.Set(3, 10)
	w.Set(4, 7)
	w.Set(-2, 10)
	w.Set(1, 64+7)
	w.Set(2, 0)
	if got := w.Due(-1); len(got) != 0 {
		t.Error(got)
	}
	if got := w.Due(9); !slices.Equal(got, []int{2, 4}) {
		t.Error(got)
	}
	if got := w.Due(5); len(got) != 0 {
		t.Error(got)
	}
	if got := w.Due(10); !slices.Equal(got, []int{-2, 3, 5}) || w.Len() != 1 {
		t.Error(got, w.Len())
	}
	if got := w.Due(1<<63 - 1); !slices.Equal(got, []int{1}) || w.Len() != 0 {
		t.Error(got)
	}
	w.Set(1, 5)
	w.Set(1, 8)
	if got := w.Due(7); len(got) != 0 || !w.Cancel(1) || len(w.Due(9)) != 0 {
		t.Error(got)
	}
}

func TestP3_4EachOnce(t *testing.T) {
	var w Wheel
	at := map[int]int{}
	x := uint32(7)
	draw := func(n int) int {
		x = x*1664525 + 1013904223
		return int(x>>8) % n
	}
	for now := range 400 {
		for range draw(4) {
			k, d := draw(40), now+1+draw(200)
			if w.Set(k, d) != api.OK {
				t.Fatal("Set")
			}
			at[k] = d
		}
		if k := draw(40); draw(3) == 0 {
			_, had := at[k]
			delete(at, k)
			if w.Cancel(k) != had {
				t.Fatal("Cancel")
			}
		}
		var want []int
		for k, d := range at {
			if d <= now {
				want = append(want, k)
				delete(at, k)
			}
		}
		got := w.Due(now)
		slices.Sort(want)
		if !slices.Equal(slices.Sorted(slices.Values(got)), want) || w.Len() != len(at) {
			t.Fatalf("at %d: %v, want %v", now, got, want)
		}
		if next, ok := w.Next(); ok != (len(at) > 0) || ok && next <= now {
			t.Fatalf("Next at %d: %d", now, next)
		}
	}
}

func TestP3_5Nil(t *testing.T) {
	var w *Wheel
	if w.Set(1, 1) != api.ErrArg || w.Cancel(1) || w.Len() != 0 || len(w.Due(9)) != 0 {
		t.Error("a nil Wheel")
	}
	if at, ok := w.At(1); at != 0 || ok {
		t.Error("At of a nil Wheel")
	}
	if at, ok := w.Next(); at != 0 || ok {
		t.Error("Next of a nil Wheel")
	}
	var z Wheel
	z.Set(1, 1)
	z.Set(2, 2)
	first := z.Due(1)
	z.Due(2)
	first = append(first, 9)
	if !slices.Equal(first, []int{1, 9}) {
		t.Error("a result changes")
	}
}
