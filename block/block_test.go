package block

import (
	"strings"
	"testing"

	"ladderback/api"
	"ladderback/count"
	"ladderback/kind"
	"ladderback/timer"
	"ladderback/trig"
)

const least, most = -1 << 63, 1<<63 - 1

var said = []string{
	"TON IN BOOL PT TIME | Q BOOL ET TIME", "TOF IN BOOL PT TIME | Q BOOL ET TIME", "TP IN BOOL PT TIME | Q BOOL ET TIME",
	"CTU CU BOOL R BOOL PV INT | Q BOOL CV INT", "CTD CD BOOL LD BOOL PV INT | Q BOOL CV INT",
	"CTUD CU BOOL CD BOOL R BOOL LD BOOL PV INT | QU BOOL QD BOOL CV INT", "R_TRIG CLK BOOL | Q BOOL", "F_TRIG CLK BOOL | Q BOOL",
}

func TestTable(t *testing.T) {
	for i, line := range said {
		k := i + 1
		w := strings.Fields(line)
		if !Right(k) || Name(k) != w[0] || Find(w[0]) != k {
			t.Error(line)
		}
		n, inputs := 0, 0
		for j := 1; j < len(w); {
			if w[j] == "|" {
				inputs = n
				j++
				continue
			}
			name, ty := Field(k, n)
			if name != w[j] || kind.Name(ty) != w[j+1] || Place(k, w[j]) != n {
				t.Error(line, n, name)
			}
			n++
			j += 2
		}
		if Inputs(k) != inputs {
			t.Error("inputs", line)
		}
		if Fields(k) != n {
			t.Error("fields", line, n)
		}
		for _, f := range []int{-1, n, 10, least, most} {
			if s, ty := Field(k, f); s != "" || ty != 0 {
				t.Error("field", k, f)
			}
		}
		if Place(k, "") != -1 || Place(k, "XX") != -1 {
			t.Error("place", k)
		}
	}
	for _, k := range []int{0, 9, -1, least, most} {
		if Right(k) || Name(k) != "" || Fields(k) != 0 || Inputs(k) != 0 || Place(k, "Q") != -1 {
			t.Error(k)
		}
	}
	if Find("") != 0 || Find("ton") != 0 {
		t.Error("find")
	}
}

func TestSetGetRun(t *testing.T) {
	var full api.Inst
	for i := range full.F {
		full.F[i] = 70000 + i
	}
	for k := 0; k < 10; k++ {
		for i := -1; i < 11; i++ {
			for _, v := range []int{0, 1, 5, 40000, -3, most} {
				got := Set(k, full, i, v)
				want := full
				if i >= 0 && i < Inputs(k) {
					_, ty := Field(k, i)
					want.F[i] = kind.Wrap(ty, v)
					if Get(k, got, i) != want.F[i] {
						t.Error("set is got", k, i, v)
					}
				}
				if got != want {
					t.Error("set", k, i, v)
				}
			}
			want := 0
			if i >= 0 && i < Fields(k) {
				_, ty := Field(k, i)
				want = kind.Wrap(ty, full.F[i])
			}
			if Get(k, full, i) != want {
				t.Error("get", k, i)
			}
		}
		got := Run(k, full, 12)
		want := full
		switch {
		case k >= 1 && k <= 3:
			want = timer.Step(k, full, 12)
		case k >= 4 && k <= 6:
			want = count.Step(k, full)
		case k == 7 || k == 8:
			want = trig.Step(k, full)
		}
		if got != want {
			t.Error("run", k)
		}
		for i := range Inputs(k) {
			if got.F[i] != full.F[i] {
				t.Error("a run changed an input", k, i)
			}
		}
	}
}
