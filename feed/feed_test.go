package feed

import (
	"slices"
	"testing"
)

const least, largest = -1 << 63, 1<<63 - 1

func TestRoom(t *testing.T) {
	for _, r := range [][2]int{{-1, 0}, {0, 0}, {1, 1}, {5, 5}, {1024, 1024}, {1025, 1024}, {least, 0}, {largest, 1024}} {
		f := New(r[0])
		n := 0
		for n < 2000 && f.Offer(Sample{DT: n}) {
			n++
		}
		if n != r[1] || f.Len() != n {
			t.Error(r, n)
		}
	}
}

func TestOrder(t *testing.T) {
	f := New(3)
	in := []int{1, 2}
	if _, ok := f.Next(); ok || f.Over() || f.Len() != 0 {
		t.Error("new")
	}
	f.Offer(Sample{In: in, DT: 7})
	in[0] = 99
	f.Offer(Sample{DT: 8})
	f.Offer(Sample{DT: 9})
	if f.Offer(Sample{DT: 10}) || f.Len() != 3 {
		t.Error("full")
	}
	x, ok := f.Next()
	if !ok || x.DT != 7 || !slices.Equal(x.In, []int{1, 2}) || f.Len() != 2 || !f.Offer(Sample{DT: 11}) {
		t.Error(x)
	}
	if !f.Shut() || f.Shut() || f.Offer(Sample{}) || f.Over() || f.Len() != 3 {
		t.Error("shut")
	}
	for _, want := range []int{8, 9, 11} {
		if x, ok := f.Next(); !ok || x.DT != want || f.Over() != (want == 11) {
			t.Error(x)
		}
	}
	if x, ok := f.Next(); ok || x.DT != 0 || len(x.In) > 0 || f.Offer(Sample{}) || !f.Over() {
		t.Error("over")
	}
}

func TestNil(t *testing.T) {
	var f *Feed
	if x, ok := f.Next(); ok || x.DT != 0 || f.Offer(Sample{}) || f.Shut() || !f.Over() || f.Len() != 0 {
		t.Error("nil")
	}
}
