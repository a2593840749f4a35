package seq

import (
	"math"
	"testing"
)

const last = math.MaxUint32

func TestP12_1Diff(t *testing.T) {
	for _, c := range []struct {
		a, b uint32
		diff int
	}{{0, last, 1}, {last, 0, -1}, {5, 5, 0}, {1 << 31, 0, -1 << 31}, {0, 1 << 31, -1 << 31}, {1<<31 - 1, 0, 1<<31 - 1}, {7, 1<<31 + 8, 1<<31 - 1}, {100, 4000000000, 294967396}} {
		if got := Diff(c.a, c.b); got != c.diff {
			t.Errorf("Diff(%d, %d) = %d", c.a, c.b, got)
		}
		if Less(c.a, c.b) != (c.diff < 0) {
			t.Errorf("Less(%d, %d)", c.a, c.b)
		}
		want := c.a
		if c.diff < 0 {
			want = c.b
		}
		if Max(c.a, c.b) != want {
			t.Errorf("Max(%d, %d)", c.a, c.b)
		}
	}
}

func TestP12_2In(t *testing.T) {
	for i, c := range []struct {
		a, b uint32
		n    int
		want bool
	}{
		{1, last, 3, true}, {2, last, 3, false}, {last, last, 1, true}, {last - 1, last, 3, false},
		{5, 5, 0, false}, {5, 5, -1, false}, {5, 5, math.MinInt, false},
		{4, 5, 1 << 32, true}, {4, 5, 1<<32 - 1, false}, {4, 5, 1<<32 + 1, true}, {4, 5, math.MaxInt, true},
		{1 << 31, 0, 1<<31 + 1, true}, {1 << 31, 0, 1 << 31, false},
	} {
		if In(c.a, c.b, c.n) != c.want {
			t.Errorf("%d: In(%d, %d, %d)", i, c.a, c.b, c.n)
		}
	}
}

func TestP12_3Fits(t *testing.T) {
	for i, c := range []struct {
		at     uint32
		length int
		next   uint32
		window int
		want   bool
	}{
		{5, 0, 5, 0, true}, {4, 0, 5, 0, false}, {6, 0, 5, 0, false}, {5, -9, 5, -9, true},
		{5, 0, 5, 3, true}, {7, 0, 5, 3, true}, {8, 0, 5, 3, false}, {4, 0, 5, 3, false}, {7, -1, 5, 3, true},
		{5, 1, 5, 0, false}, {5, 1, 5, -1, false},
		{4, 2, 5, 10, true}, {4, 1, 5, 10, false}, {14, 9, 5, 10, true}, {15, 9, 5, 10, false},
		{last, 2, 0, 1, true}, {last - 1, 2, 0, 1, false},
		{0, 100, 5, 3, false}, {0, 6, 5, 3, true}, {0, 8, 5, 3, true}, {0, 9, 5, 3, false},
		{9, 1 << 32, 9, 1, true}, {10, 1 << 32, 9, 1, true}, {10, 1<<32 + 1, 9, 1, false}, {10, math.MaxInt, 9, math.MaxInt, true},
	} {
		if Fits(c.at, c.length, c.next, c.window) != c.want {
			t.Errorf("%d: Fits(%d, %d, %d, %d)", i, c.at, c.length, c.next, c.window)
		}
	}
}

func TestP12_4Trim(t *testing.T) {
	for i, c := range []struct {
		at          uint32
		n           int
		next        uint32
		window      int
		first, many int
	}{
		{3, 5, 5, 2, 2, 2}, {9, 5, 5, 2, 0, 0}, {5, 9, 5, 4, 0, 4}, {6, 2, 5, 9, 0, 2}, {6, 9, 5, 3, 0, 2},
		{7, 9, 5, 2, 0, 0}, {3, 2, 5, 9, 0, 0}, {3, 3, 5, 9, 2, 1}, {last, 3, 0, 9, 1, 2},
		{5, 0, 5, 4, 0, 0}, {5, -1, 5, 4, 0, 0}, {5, 4, 5, 0, 0, 0}, {5, 4, 5, -1, 0, 0}, {3, 0, 5, 0, 0, 0},
		{5, math.MaxInt, 5, math.MaxInt, 0, 1<<31 - 1}, {5, math.MaxInt, 5, 7, 0, 7}, {5, 7, 5, math.MaxInt, 0, 7},
		{0, math.MaxInt, 1 << 30, math.MaxInt, 1 << 30, 1<<30 - 1}, {1 << 31, math.MaxInt, 0, math.MaxInt, 0, 0},
		{5, math.MinInt, 5, math.MinInt, 0, 0}, {3, math.MinInt, 5, 5, 0, 0}, {9, 5, 5, math.MinInt, 0, 0}, {1<<31 - 1, 5, 0, math.MaxInt, 0, 0}, {1<<31 - 2, 5, 0, math.MaxInt, 0, 1},
	} {
		first, many := Trim(c.at, c.n, c.next, c.window)
		if first != c.first || many != c.many {
			t.Errorf("%d: Trim(%d, %d, %d, %d) = %d, %d", i, c.at, c.n, c.next, c.window, first, many)
		}
	}
}

func TestP12_4TrimByteByByte(t *testing.T) {
	for at := range 14 {
		for n := range 9 {
			for window := range 9 {
				base := uint32(last - 3)
				wantFirst, wantMany := 0, 0
				for i := n - 1; i >= 0; i-- {
					if pos := at - 7 + i; pos >= 0 && pos < window {
						wantFirst, wantMany = i, wantMany+1
					}
				}
				first, many := Trim(base+uint32(at)-7, n, base, window)
				if first != wantFirst || many != wantMany {
					t.Fatal(at, n, window, first, many)
				}
			}
		}
	}
}

func TestP12_5Properties(t *testing.T) {
	x := uint32(9)
	for range 10000 {
		a := x
		x = x*1664525 + 1013904223
		b := x
		x = x*1664525 + 1013904223
		if a != b && Diff(a, b) != -1<<31 && Less(a, b) == Less(b, a) {
			t.Fatal(a, b)
		}
		if Diff(a+x, b+x) != Diff(a, b) {
			t.Fatal(a, b, x)
		}
	}
}

func TestP12_6OnlyTheArguments(t *testing.T) {
	for i := range uint32(100) {
		f1, m1 := Trim(i, 50, 40, 30)
		Trim(i*7, 9, 1, 1)
		if f2, m2 := Trim(i, 50, 40, 30); f1 != f2 || m1 != m2 || Diff(i, 9) != Diff(i, 9) {
			t.Error(i)
		}
	}
}
