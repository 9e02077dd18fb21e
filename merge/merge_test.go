package merge

import (
	"testing"

	"ladderback/api"
	"ladderback/deep"
	"ladderback/eval"
	"ladderback/sample"
	"ladderback/state"
	"ladderback/stmt"
)

func e(n int) api.Expr { return api.Expr{Op: api.ExSlot, N: n} }

func set(n, m, cost int) api.Stmt {
	return api.Stmt{Kind: api.StField, N: n, M: m, Cost: cost, E: e(10*n + m)}
}

func call(n, cost int, fields ...int) api.Stmt {
	x := api.Stmt{Kind: api.StBlock, N: n, Cost: cost}
	for _, m := range fields {
		x.Args = append(x.Args, api.Arg{Field: m, E: e(10*n + m)})
	}
	return x
}

func skip(cost int) api.Stmt { return api.Stmt{Cost: cost} }

func list(l ...api.Stmt) []api.Stmt { return l }

func TestMerge(t *testing.T) {
	const top = api.MaxCost
	other := api.Stmt{Kind: api.StVar, Cost: 5}
	rows := [][2][]api.Stmt{
		{nil, nil},
		{list(set(0, 0, 1), set(0, 1, 2), call(0, 3)), list(call(0, 6, 0, 1))},
		{list(set(0, 1, 1), call(0, 3, 0)), list(call(0, 4, 1, 0))},
		{list(set(0, 0, 1), call(0, 3, 0)), list(set(0, 0, 1), call(0, 3, 0))},
		{list(set(0, 0, 1), set(0, 0, 2), call(0, 3)), list(set(0, 0, 1), call(0, 5, 0))},
		{list(set(1, 0, 1), set(0, 1, 2), call(0, 3)), list(set(1, 0, 1), call(0, 5, 1))},
		{list(set(0, 0, 1), other, call(0, 3)), list(set(0, 0, 1), other, call(0, 3))},
		{list(set(0, 0, 1), skip(7), skip(2), set(0, 1, 1), skip(3), call(0, 3)), list(call(0, 17, 0, 1))},
		{list(skip(9), call(0, 3)), list(skip(9), call(0, 3))},
		{list(set(0, 0, 1), skip(7), set(1, 1, 1), skip(3), call(0, 3)), list(set(0, 0, 1), skip(7), set(1, 1, 1), skip(3), call(0, 3))},
		{list(skip(4), set(0, 0, 1), skip(2), call(0, 3), skip(1)), list(skip(4), call(0, 6, 0), skip(1))},
		{list(set(0, 0, 1), call(0, 3), set(0, 1, 1), call(0, 2)), list(call(0, 4, 0), call(0, 3, 1))},
		{list(set(0, 0, 1), call(0, top-1)), list(call(0, top, 0))},
		{list(set(0, 0, 1), call(0, top)), list(set(0, 0, 1), call(0, top))},
		{list(set(0, 0, 1), skip(1), call(0, top-1)), list(set(0, 0, 1), skip(1), call(0, top-1))},
		{list(set(0, 0, top), set(0, 1, 1), call(0, 1)), list(set(0, 0, top), call(0, 2, 1))},
	}
	for i, r := range rows {
		for what, f := range wraps() {
			given := f(r[0])
			was := deep.Stmts(given)
			got := Merge(given)
			if !stmt.Same(got, f(r[1])) {
				t.Error(i, what, got)
			}
			if !stmt.Same(given, was) || !stmt.Same(Merge(got), got) {
				t.Error("changed", i, what)
			}
		}
	}
}

// wraps tells in what lists may stand.
func wraps() []func([]api.Stmt) []api.Stmt {
	return []func([]api.Stmt) []api.Stmt{
		func(l []api.Stmt) []api.Stmt { return l },
		func(l []api.Stmt) []api.Stmt { return list(api.Stmt{Kind: api.StIf, Body: l, Else: l}) },
		func(l []api.Stmt) []api.Stmt {
			return list(skip(1), api.Stmt{Kind: api.StCase, Arms: []api.Arm{{Labels: []int{1}, Body: l}}, Else: list(api.Stmt{Kind: api.StLoop, Body: l})})
		},
	}
}

func TestSplit(t *testing.T) {
	rows := [][2][]api.Stmt{
		{nil, nil}, {list(call(0, 5, 1, 0)), list(set(0, 1, 0), set(0, 0, 0), call(0, 5))}, {list(skip(2), call(0, 5)), list(skip(2), call(0, 5))}, {list(set(0, 0, 3), call(0, 5, 1)), list(set(0, 0, 3), set(0, 1, 0), call(0, 5))},
	}
	for i, r := range rows {
		for what, f := range wraps() {
			if got := Split(f(r[0])); !stmt.Same(got, f(r[1])) {
				t.Error(i, what, got)
			}
		}
	}
}

// bare tells statements without costs and skips.
func bare(l []api.Stmt) []api.Stmt { return stmt.Erase(l) }

func TestSamples(t *testing.T) {
	for seed := range 1500 {
		s := sample.Source(seed)
		merged, split := deep.Source(s), deep.Source(s)
		for i, f := range s.Funcs {
			merged.Funcs[i].Body, split.Funcs[i].Body = Merge(f.Body), Split(f.Body)
			if !stmt.Same(bare(Split(Merge(f.Body))), bare(Split(f.Body))) || !stmt.Same(Merge(merged.Funcs[i].Body), merged.Funcs[i].Body) {
				t.Fatal("split", seed)
			}
		}
		m, e1 := eval.New(s)
		x, e2 := eval.New(merged)
		y, e3 := eval.New(split)
		if e1 != api.OK || e2 != api.OK || e3 != api.OK {
			t.Fatal("right", seed)
		}
		in := sample.New(seed).Inputs()
		a, _, used1, _ := m.Scan(m.Start(), in, 5, 3000)
		b, _, used2, _ := x.Scan(m.Start(), in, 5, 3000)
		c, _, used3, _ := y.Scan(m.Start(), in, 5, 3000)
		if !state.Same(a, b) || !state.Same(a, c) || used1 != used2 || used1 != used3 {
			t.Fatal("meaning", seed)
		}
	}
}
