package calls

import (
	"slices"
	"testing"

	"ladderback/api"
)

func units(l ...[]int) []api.Unit {
	var out []api.Unit
	for _, called := range l {
		u := api.Unit{Code: []api.Instr{{Op: api.OpNop, A: 1}, {Op: api.OpRet}}}
		for _, v := range called {
			u.Code = append(u.Code, api.Instr{Op: api.OpCall, A: v})
		}
		out = append(out, u)
	}
	return out
}

func TestCalls(t *testing.T) {
	rows := []struct {
		l            []api.Unit
		order, depth []int
		ok           bool
	}{
		{units([]int{2}, nil, []int{1}), []int{1, 2, 0}, []int{3, 1, 2}, true},
		{nil, nil, nil, true},
		{units(nil, nil), []int{0, 1}, []int{1, 1}, true},
		{units([]int{0}), nil, nil, false},
		{units(nil, []int{2}, []int{1}), nil, nil, false},
		{units([]int{1, 3}, []int{2}, nil, nil), []int{2, 1, 3, 0}, []int{3, 2, 1, 1}, true},
		{units([]int{7, -1}, nil), []int{0, 1}, []int{1, 1}, true},
		{units(nil, []int{0, 0}), []int{0, 1}, []int{1, 2}, true},
	}
	for i, r := range rows {
		order, ok := Order(r.l)
		if ok != r.ok || !slices.Equal(order, r.order) || !slices.Equal(Depth(r.l), r.depth) {
			t.Error(i, order, ok, Depth(r.l))
		}
	}
}

func TestOf(t *testing.T) {
	l := units([]int{3, 1, 3, 0, 4, 9, -1, 1 << 62}, nil, nil, nil)
	if got := Of(l, 0); !slices.Equal(got, []int{0, 1, 3}) {
		t.Error(got)
	}
	for _, u := range []int{-1, 4, 1 << 62} {
		if len(Of(l, u)) != 0 {
			t.Error(u)
		}
	}
}

func TestAllSmallOnes(t *testing.T) {
	for x := 0; x < 1<<9; x++ {
		called := make([][]int, 3)
		for i := 0; i < 9; i++ {
			if x>>i&1 == 1 {
				called[i/3] = append(called[i/3], i%3)
			}
		}
		comes := func(from, to int) bool {
			met := map[int]int{}
			wait := slices.Clone(called[from])
			for len(wait) > 0 {
				v := wait[0]
				wait = wait[1:]
				if met[v]++; met[v] == 1 {
					wait = append(wait, called[v]...)
				}
			}
			return met[to] > 0
		}
		circle := comes(0, 0) || comes(1, 1) || comes(2, 2)
		order, ok := Order(units(called...))
		if ok == circle || ok && len(order) != 3 {
			t.Error(x)
		}
		for i, u := range order {
			for _, v := range called[u] {
				if slices.Index(order, v) > i {
					t.Error("ahead", x)
				}
			}
		}
	}
}
