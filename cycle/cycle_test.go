package cycle

import (
	"slices"
	"testing"

	"ladderback/api"
	"ladderback/state"
)

const least, most = -1 << 63, 1<<63 - 1

var vars = []api.Var{{T: api.Bool, N: 1, Area: api.In}, {T: api.Int, N: 2, Init: 3}, {T: api.Word, N: 2, Area: api.In, Init: 9}, {T: api.Int, N: 2, Area: api.Out, Init: 6}}

func TestBegin(t *testing.T) {
	s := state.New(vars, []api.Block{{Kind: 1}})
	rows := []struct {
		in   []int
		want []int
	}{{nil, []int{0, 0, 0}}, {[]int{5}, []int{1, 0, 0}}, {[]int{0, -1, 70000, 8}, []int{0, 65535, 4464}}}
	for _, r := range rows {
		got := Begin(vars, s, r.in, 7)
		if !slices.Equal(state.Area(vars, got, api.In), r.want) || got.Now != 7 || !slices.Equal(got.Vars[1], []int{3, 3}) || !slices.Equal(got.Vars[3], []int{6, 6}) || s.Vars[2][0] != 9 {
			t.Error(r, got)
		}
	}
	two := []api.Var{{T: api.Bool, N: 1, Area: api.In}, {T: api.Bool, N: 1, Area: api.In}}
	if got := Begin(two, state.New(two, nil), []int{5}, 0); got.Vars[0][0] != 1 || got.Vars[1][0] != 0 {
		t.Error("example")
	}
	less := api.State{Vars: [][]int{{1}, {3, 3}}}
	if got := Begin(vars, less, []int{1, 1, 1}, 0); len(got.Vars) != 2 || got.Vars[0][0] != 1 {
		t.Error("less")
	}
	short := api.State{Vars: [][]int{{1}}, Fault: 2}
	if got := Begin(vars, short, []int{0, 1, 1}, 0); len(got.Vars) != 1 || got.Vars[0][0] != 0 || got.Fault != 2 {
		t.Error("short")
	}
}

func TestNow(t *testing.T) {
	for _, r := range [][3]int{{0, -5, 0}, {5, 0, 5}, {5, 3, 8}, {api.MaxNow - 1, 1, api.MaxNow}, {api.MaxNow, 1, api.MaxNow}, {3, most, api.MaxNow}, {3, least, 3}, {most, most, api.MaxNow}, {least, 1, least + 1}, {-5, api.MaxNow, api.MaxNow - 5}, {most, -1, api.MaxNow}} {
		if got := Begin(nil, api.State{Now: r[0]}, nil, r[1]); got.Now != r[2] {
			t.Error(r, got.Now)
		}
	}
}

func TestEnd(t *testing.T) {
	was := state.New(vars, nil)
	now := state.Clone(was)
	now.Vars[3][1], now.Now = 44, 9
	s, out := End(vars, was, now, api.FaultNone)
	if !state.Same(s, now) || !slices.Equal(out, []int{6, 44}) {
		t.Error(s, out)
	}
	out[0], s.Vars[3][1] = 1, 1
	if now.Vars[3][0] != 6 || now.Vars[3][1] != 44 {
		t.Error("shared")
	}
	for _, fault := range []int{1, 2, 3, -7} {
		s, out = End(vars, was, now, fault)
		if !slices.Equal(out, []int{0, 0}) || s.Fault != fault || s.Now != 0 {
			t.Error(fault)
		}
		s.Fault = 0
		if !state.Same(s, was) {
			t.Error("as it was")
		}
	}
	if !slices.Equal(Off(vars, was), []int{0, 0}) || len(Off(vars, api.State{})) != 0 || len(Off(nil, was)) != 0 {
		t.Error("off")
	}
}
