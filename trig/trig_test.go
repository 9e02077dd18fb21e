package trig

import (
	"testing"

	"ladderback/api"
)

func inst(l ...int) api.Inst {
	var x api.Inst
	copy(x.F[:], l)
	return x
}

func TestSteps(t *testing.T) {
	for k := -1; k < 12; k++ {
		want := k == api.Rtrig || k == api.Ftrig
		x := inst(1, 2, 3, 4, 5, 6, 7, 8, 9, 10)
		if Is(k) != want || !want && Step(k, x) != x {
			t.Error(k)
		}
	}
	rows := []struct {
		kind    int
		x, want api.Inst
	}{
		{api.Rtrig, inst(1, 0, 0, 5), inst(1, 1, 1, 5)}, {api.Rtrig, inst(-3, 1, 9), inst(-3, 0, 1)}, {api.Rtrig, inst(0, 1, 1), inst(0, 0, 0)}, {api.Rtrig, inst(0, 1, 0), inst(0, 0, 0)},
		{api.Ftrig, inst(1, 1, 0), inst(1, 0, 1)}, {api.Ftrig, inst(0, 0, 7), inst(0, 1, 0)}, {api.Ftrig, inst(0, 1, 0), inst(0, 0, 0)}, {api.Ftrig, inst(2, 1, 2, 8), inst(2, 0, 1, 8)},
	}
	for _, r := range rows {
		if got := Step(r.kind, r.x); got != r.want {
			t.Error(r, got)
		}
	}
}

func TestEdges(t *testing.T) {
	if r, f := Edges(nil); r != 0 || f != 0 {
		t.Error("none")
	}
	if r, f := Edges([]bool{true, true, false, true}); r != 2 || f != 1 {
		t.Error(r, f)
	}
	if r, f := Edges([]bool{false, true, false, false}); r != 1 || f != 1 {
		t.Error(r, f)
	}
	for seed := 1; seed < 100; seed++ {
		rise, fall := inst(), inst()
		var l []bool
		x := uint32(seed)
		rises, falls := 0, 0
		for range 50 {
			x = x*1664525 + 1013904223
			on := int(x >> 31)
			l = append(l, on == 1)
			rise.F[0], fall.F[0] = on, on
			rise, fall = Step(api.Rtrig, rise), Step(api.Ftrig, fall)
			rises += rise.F[1]
			falls += fall.F[1]
		}
		if r, f := Edges(l); r != rises || f != falls {
			t.Error(seed)
		}
	}
}
