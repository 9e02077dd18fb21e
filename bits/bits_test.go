package bits

import (
	"slices"
	"testing"
)

func of(room int, l ...int) Set {
	s := New(room)
	for _, i := range l {
		s = s.With(i)
	}
	return s
}

func TestRooms(t *testing.T) {
	var zero Set
	if zero.Room() != 0 || zero.Has(0) || zero.Count() != 0 || len(zero.List()) != 0 || !zero.Same(New(0)) || zero.With(0).Count() != 0 || zero.Or(All(3)).Count() != 3 || zero.And(All(3)).Room() != 0 {
		t.Error("zero")
	}
	for _, r := range [][2]int{{-1, 0}, {0, 0}, {1, 1}, {64, 64}, {65, 65}, {1 << 16, 1 << 16}, {1<<16 + 1, 1 << 16}, {-1 << 63, 0}, {1<<63 - 1, 1 << 16}} {
		if New(r[0]).Room() != r[1] || New(r[0]).Count() != 0 || All(r[0]).Count() != r[1] || All(r[0]).Room() != r[1] {
			t.Error(r)
		}
	}
}

func TestWith(t *testing.T) {
	if got := of(9, 5, 2).List(); !slices.Equal(got, []int{2, 5}) {
		t.Error(got)
	}
	if !of(5, 0).Has(0) || !of(5, 4).Has(4) || of(5, 4).Has(0) || of(5, 4).Has(5) {
		t.Error("has")
	}
	s := of(70, 1)
	more := s.With(69).With(64)
	if s.Count() != 1 || s.Has(69) || !more.Has(69) || !more.Has(1) || more.Count() != 3 {
		t.Error("a set changed")
	}
	for _, i := range []int{-1, 70, 1<<63 - 1, -1 << 63} {
		if !s.With(i).Same(s) || s.Has(i) {
			t.Error(i)
		}
	}
}

func TestAndOr(t *testing.T) {
	a, b := of(100, 0, 63, 64, 99), of(66, 63, 64, 65)
	if and := a.And(b); and.Room() != 66 || !slices.Equal(and.List(), []int{63, 64}) || !and.Same(b.And(a)) {
		t.Error("and")
	}
	if or := a.Or(b); or.Room() != 100 || !slices.Equal(or.List(), []int{0, 63, 64, 65, 99}) || !or.Same(b.Or(a)) {
		t.Error("or")
	}
	if cut := All(100).And(All(3)); cut.Count() != 3 || !cut.Same(All(3)) || !All(3).And(All(100)).Same(All(3)) {
		t.Error("cut")
	}
	if New(5).Same(New(6)) || of(5, 1).Same(of(5, 2)) || !of(5, 1, 2).Same(of(5, 2, 1)) {
		t.Error("same")
	}
	for x := 0; x < 300; x++ {
		s, u := New(x), New(300-x)
		for i := 0; i < 300; i++ {
			if i*i%7 == x%7 {
				s = s.With(i)
			}
			if i*x%5 == 1 {
				u = u.With(i)
			}
		}
		if s.And(u).Count()+s.Or(u).Count() != s.Count()+u.Count() {
			t.Error(x)
		}
	}
}
