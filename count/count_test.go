package count

import (
	"testing"

	"ladderback/api"
)

func inst(l ...int) api.Inst {
	var x api.Inst
	copy(x.F[:], l)
	return x
}

func TestKinds(t *testing.T) {
	for k := -1; k < 12; k++ {
		want := k == api.Ctu || k == api.Ctd || k == api.Ctud
		if Is(k) != want {
			t.Error(k)
		}
		x := inst(1, 2, 3, 4, 5, 6, 7, 8, 9, 10)
		if !want && Step(k, x) != x {
			t.Error("other kinds stay", k)
		}
	}
}

func TestSteps(t *testing.T) {
	rows := []struct {
		kind    int
		x, want api.Inst
	}{
		{api.Ctu, inst(1, 0, 2, 0, 0, 0, 7), inst(1, 0, 2, 0, 1, 1, 7)},
		{api.Ctu, inst(9, 0, 2, 0, 1, 0), inst(9, 0, 2, 1, 2, 1)},
		{api.Ctu, inst(1, 0, 2, 1, 1, 1), inst(1, 0, 2, 0, 1, 1)},
		{api.Ctu, inst(1, 0, 2, 1, 1, -4), inst(1, 0, 2, 0, 1, 1)},
		{api.Ctu, inst(0, 0, 0, 0, 0, 1), inst(0, 0, 0, 1, 0, 0)},
		{api.Ctu, inst(1, 5, 2, 1, 9, 0), inst(1, 5, 2, 0, 0, 1)},
		{api.Ctu, inst(1, 0, 2, 0, 32767, 0), inst(1, 0, 2, 1, 32767, 1)},
		{api.Ctd, inst(1, 0, 2, 0, 1, 0), inst(1, 0, 2, 1, 0, 1)},
		{api.Ctd, inst(1, 1, 2, 1, 1, 0), inst(1, 1, 2, 0, 2, 1)},
		{api.Ctd, inst(1, 0, 2, 0, -32768, 0), inst(1, 0, 2, 1, -32768, 1)},
		{api.Ctd, inst(0, 0, 2, 1, 5, 1), inst(0, 0, 2, 0, 5, 0)},
		{api.Ctd, inst(0, 0, 2, 1, 1, 1), inst(0, 0, 2, 0, 1, 0)},
		{api.Ctd, inst(0, 0, 2, 0, 0, 1), inst(0, 0, 2, 1, 0, 0)},
		{api.Ctud, inst(1, 1, 0, 0, 3, 1, 0, 2, 0, 0), inst(1, 1, 0, 0, 3, 0, 0, 2, 1, 1)},
		{api.Ctud, inst(1, 1, 0, 0, 3, 0, 0, 2, 0, 1), inst(1, 1, 0, 0, 3, 1, 0, 3, 1, 1)},
		{api.Ctud, inst(1, 1, 0, 0, 3, 0, 0, 2, 1, 0), inst(1, 1, 0, 0, 3, 0, 0, 1, 1, 1)},
		{api.Ctud, inst(1, 0, 1, 1, 3, 1, 0, 2, 0, 0), inst(1, 0, 1, 1, 3, 0, 1, 0, 1, 0)},
		{api.Ctud, inst(1, 0, 0, 1, 3, 0, 1, 2, 0, 0), inst(1, 0, 0, 1, 3, 1, 0, 3, 1, 0)},
		{api.Ctud, inst(1, 0, 0, 0, 3, 0, 0, 32767, 0, 0), inst(1, 0, 0, 0, 3, 1, 0, 32767, 1, 0)},
		{api.Ctud, inst(0, 1, 0, 0, -3, 0, 0, -32768, 1, 0), inst(0, 1, 0, 0, -3, 0, 1, -32768, 0, 1)},
	}
	for _, r := range rows {
		if got := Step(r.kind, r.x); got != r.want {
			t.Error(r, got)
		}
	}
}

func TestRuns(t *testing.T) {
	for seed := 1; seed < 100; seed++ {
		u, d, b := inst(), inst(), inst()
		x := uint32(seed)
		ups, downs, diff, wasU, wasD := 0, 0, 0, 0, 0
		for range 80 {
			x = x*1664525 + 1013904223
			cu, cd := int(x>>31), int(x>>29&1)
			riseU, riseD := cu == 1 && wasU == 0, cd == 1 && wasD == 0
			wasU, wasD = cu, cd
			if riseU {
				ups++
				diff++
			}
			if riseD {
				downs++
				diff--
			}
			u.F[0], d.F[0], b.F[0], b.F[1] = cu, cd, cu, cd
			u, d, b = Step(api.Ctu, u), Step(api.Ctd, d), Step(api.Ctud, b)
			if u.F[4] != ups || d.F[4] != -downs || b.F[7] != diff {
				t.Fatal(seed, u, d, b)
			}
		}
	}
}
