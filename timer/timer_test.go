package timer

import (
	"testing"

	"ladderback/api"
)

const least, most = -1 << 63, 1<<63 - 1

func inst(l ...int) api.Inst {
	var x api.Inst
	copy(x.F[:], l)
	return x
}

func TestKinds(t *testing.T) {
	for k := -1; k < 12; k++ {
		want := k == api.Ton || k == api.Tof || k == api.Tp
		if Is(k) != want {
			t.Error(k)
		}
		x := inst(1, 2, 3, 4, 5, 6, 7, 8, 9, 10)
		if !want && Step(k, x, 99) != x {
			t.Error("other kinds stay", k)
		}
		if got := Step(k, x, 99); got.F[6] != 7 || got.F[7] != 8 || got.F[8] != 9 || got.F[9] != 10 || got.F[0] != 1 || got.F[1] != 2 {
			t.Error("places that aren't named", k)
		}
	}
}

func TestSteps(t *testing.T) {
	rows := []struct {
		kind, now int
		x, want   api.Inst
	}{
		{api.Ton, 10, inst(0, 5, 1, 3, 1, 7), inst(0, 5, 0, 0, 0, 7)},
		{api.Ton, 10, inst(1, 5, 1, 3, 0, 7), inst(1, 5, 0, 0, 1, 10)},
		{api.Ton, 10, inst(1, 5, 0, 0, 1, 5), inst(1, 5, 1, 5, 1, 5)},
		{api.Ton, 10, inst(1, 5, 1, 0, 1, 6), inst(1, 5, 0, 4, 1, 6)},
		{api.Ton, 10, inst(7, -5, 0, 9, 0, 6), inst(7, -5, 1, 0, 1, 10)},
		{api.Ton, 10, inst(1, 5, 0, 0, 1, 90), inst(1, 5, 0, 0, 1, 90)},
		{api.Ton, most, inst(1, most, 0, 0, 1, least), inst(1, most, 0, api.MaxNow, 1, least)},
		{api.Ton, least, inst(1, 0, 0, 0, 9, 4), inst(1, 0, 1, 0, 1, least)},
		{api.Tof, 10, inst(1, 5, 0, 3, 2, 4), inst(1, 5, 1, 0, 1, 4)},
		{api.Tof, 10, inst(0, 5, 1, 0, 1, 4), inst(0, 5, 1, 0, 2, 10)},
		{api.Tof, 10, inst(0, 5, 1, 0, 2, 6), inst(0, 5, 1, 4, 2, 6)},
		{api.Tof, 10, inst(0, 5, 1, 0, 2, 5), inst(0, 5, 0, 5, 3, 5)},
		{api.Tof, 10, inst(0, 0, 1, 0, 1, 5), inst(0, 0, 0, 0, 3, 10)},
		{api.Tof, 10, inst(0, 5, 1, 2, 0, 1), inst(0, 5, 1, 2, 0, 1)},
		{api.Tof, 10, inst(0, 5, 1, 2, 3, 1), inst(0, 5, 1, 2, 3, 1)},
		{api.Tp, 10, inst(0, 5, 1, 2, 0, 1), inst(0, 5, 1, 2, 0, 1)},
		{api.Tp, 10, inst(1, 5, 0, 0, 0, 1), inst(1, 5, 1, 0, 1, 10)},
		{api.Tp, 10, inst(0, 5, 1, 0, 1, 7), inst(0, 5, 1, 3, 1, 7)},
		{api.Tp, 10, inst(0, 5, 1, 0, 1, 5), inst(0, 5, 0, 0, 0, 5)},
		{api.Tp, 10, inst(1, 5, 1, 0, 1, 5), inst(1, 5, 0, 5, 2, 5)},
		{api.Tp, 10, inst(1, 5, 0, 5, 2, 5), inst(1, 5, 0, 5, 2, 5)},
		{api.Tp, 10, inst(0, 5, 0, 5, 2, 5), inst(0, 5, 0, 0, 0, 5)},
		{api.Tp, 10, inst(1, 0, 1, 9, 7, 5), inst(1, 0, 0, 0, 2, 10)},
	}
	for _, r := range rows {
		if got := Step(r.kind, r.x, r.now); got != r.want {
			t.Error(r, got)
		}
	}
}

func TestExample(t *testing.T) {
	x := inst(1, 5)
	for _, r := range [][3]int{{10, 0, 0}, {14, 0, 4}, {15, 1, 5}} {
		x = Step(api.Ton, x, r[0])
		if x.F[Q] != r[1] || x.F[ET] != r[2] {
			t.Error(r, x)
		}
	}
}

// TestRuns holds Q against what is said of whole runs.
func TestRuns(t *testing.T) {
	for seed := 1; seed < 200; seed++ {
		pt := seed % 9
		on, off, pul := inst(0, pt), inst(0, pt), inst(0, pt)
		now, x := 0, uint32(seed)
		since, gone, begun := -1, -1, -1
		rest := true
		for range 60 {
			x = x*1664525 + 1013904223
			now += int(x>>20) % 4
			in := int(x >> 30 & 1)
			if in == 1 {
				if since < 0 {
					since = now
				}
				gone = -1
			} else {
				if since >= 0 {
					gone = now
				}
				since = -1
			}
			on.F[IN], off.F[IN], pul.F[IN] = in, in, in
			on, off, pul = Step(api.Ton, on, now), Step(api.Tof, off, now), Step(api.Tp, pul, now)
			if (on.F[Q] == 1) != (since >= 0 && now-since >= pt) {
				t.Fatal("ton", seed)
			}
			if (off.F[Q] == 1) != (in == 1 || gone >= 0 && now-gone < pt) {
				t.Fatal("tof", seed)
			}
			if rest && in == 1 {
				rest, begun = false, now
			}
			if (pul.F[Q] == 1) != (!rest && begun >= 0 && now-begun < pt) {
				t.Fatal("tp", seed)
			}
			if !rest && begun >= 0 && now-begun >= pt {
				begun = -1
			}
			if !rest && begun < 0 && in == 0 {
				rest = true
			}
		}
	}
}
