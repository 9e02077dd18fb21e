package rung

import (
	"testing"

	"ladderback/api"
	"ladderback/deep"
	"ladderback/eval"
	"ladderback/expr"
	"ladderback/sample"
	"ladderback/state"
	"ladderback/stmt"
)

var scope = api.Scope{
	Vars: []api.Var{{T: api.Bool, N: 1}, {T: api.Int, N: 1}, {T: api.Bool, N: 2}}, Blocks: []api.Block{{Kind: api.Ton}, {Kind: api.Ctu}}, Sigs: []api.Sig{{}, {}}, Slots: []int{api.Bool, api.Bool, api.Int},
}

func slot(n int) api.Expr               { return api.Expr{Op: api.ExSlot, N: n} }
func yes(v int) api.Expr                { return api.Expr{Op: api.ExConst, T: api.Bool, N: v} }
func not(e api.Expr) api.Expr           { return api.Expr{Op: api.ExUn, M: api.OpNot, L: []api.Expr{e}} }
func bin(m int, l ...api.Expr) api.Expr { return api.Expr{Op: api.ExBin, M: m, L: l} }
func list(l ...api.Stmt) []api.Stmt     { return l }
func put(n int, e api.Expr) api.Stmt    { return api.Stmt{Kind: api.StSlot, N: n, Cost: 2, E: e} }
func when(e api.Expr, body, other []api.Stmt) api.Stmt {
	return api.Stmt{Kind: api.StIf, Cost: 3, E: e, Body: body, Else: other}
}

func wide(n int) api.Expr {
	e := slot(0)
	for range n - 1 {
		e = bin(api.OpAnd, e, slot(1))
	}
	return e
}

func TestKinds(t *testing.T) {
	skip := api.Stmt{Cost: 1}
	loose := bin(api.OpAnd, slot(0), bin(api.OpAnd, slot(1), slot(0)))
	tight := bin(api.OpAnd, bin(api.OpAnd, slot(0), slot(1)), slot(0))
	timer := func(l ...api.Arg) api.Stmt { return api.Stmt{Kind: api.StBlock, Args: l} }
	pt := api.Arg{Field: 1, E: api.Expr{Op: api.ExConst, T: api.Time, N: 5}}
	less := bin(api.OpLt, slot(2), slot(2))
	rows := []struct {
		x    api.Stmt
		kind int
		is   bool
	}{
		{put(0, slot(1)), Coil, true}, {put(0, not(slot(1))), Coil, true}, {put(0, yes(1)), Coil, true}, {put(0, not(yes(1))), Coil, false}, {put(0, loose), Coil, false}, {put(0, tight), Coil, true}, {put(0, less), None, false}, {put(2, slot(2)), None, false}, {put(9, slot(0)), None, false},
		{api.Stmt{Kind: api.StVar, E: slot(1)}, Coil, true}, {api.Stmt{Kind: api.StItem, N: 2, I: slot(2), E: slot(1)}, None, false}, {api.Stmt{Kind: api.StField, E: slot(0)}, None, false},
		{put(0, wide(24)), Coil, true}, {put(0, wide(25)), None, false}, {put(0, bin(api.OpXor, slot(0), slot(1))), Coil, false},
		{when(slot(0), list(put(1, yes(1))), nil), SetCoil, true}, {when(slot(0), list(put(1, yes(0))), nil), ResetCoil, true}, {when(loose, list(put(1, yes(0))), nil), ResetCoil, false},
		{when(slot(0), list(put(1, yes(1)), skip), nil), SetCoil, false}, {when(slot(0), list(put(1, yes(1))), list(skip)), SetCoil, false}, {when(slot(0), list(put(1, yes(1))), list(put(1, yes(0)))), None, false}, {when(slot(0), list(put(1, slot(0))), nil), None, false}, {when(slot(0), nil, nil), None, false}, {when(slot(0), list(put(1, yes(1)), put(0, yes(1))), nil), None, false}, {when(less, list(put(1, yes(1))), nil), None, false},
		{when(slot(0), list(api.Stmt{Kind: api.StVar, E: yes(1)}), nil), SetCoil, true}, {when(slot(0), list(api.Stmt{Kind: api.StExit}), nil), None, false}, {when(slot(2), list(put(1, yes(1))), nil), None, false}, {when(slot(0), list(put(2, api.Expr{Op: api.ExConst, T: api.Int, N: 1})), nil), None, false},
		{timer(), None, false}, {timer(api.Arg{E: slot(0)}), Box, true}, {timer(api.Arg{E: slot(0)}, pt), Box, true}, {timer(pt, api.Arg{E: slot(0)}), None, false}, {timer(api.Arg{E: loose}, pt), Box, false}, {timer(api.Arg{E: slot(0)}, api.Arg{E: slot(0)}), None, false},
		{skip, None, false}, {api.Stmt{Kind: api.StExit}, None, false}, {api.Stmt{Kind: api.StWhile, E: slot(0)}, None, false}, {api.Stmt{Kind: api.StSlot, N: 0, Cost: -1, E: slot(1)}, None, false}, {api.Stmt{Kind: 99}, None, false},
	}
	for i, r := range rows {
		if Kind(scope, r.x) != r.kind || Is(scope, r.x) != r.is {
			t.Error(i, Kind(scope, r.x), Is(scope, r.x))
		}
		_, e := shape(r.x)
		if r.kind == None {
			e = api.Expr{}
		}
		if !expr.Same(Power(scope, r.x), e) {
			t.Error("power", i)
		}
		was := deep.Stmt(r.x)
		got := Make(scope, r.x)
		if !stmt.Same(list(was), list(r.x)) || Kind(scope, got) != r.kind || (r.kind == None || r.is) && !stmt.Same(list(got), list(r.x)) {
			t.Error("make", i)
		}
		if bare := stmt.Erase(list(got)); r.kind != None && !Is(scope, bare[0]) {
			t.Error("a rung then", i)
		}
	}
	want := put(0, bin(api.OpOr, not(slot(0)), not(slot(1))))
	if got := Make(scope, put(0, not(bin(api.OpAnd, slot(0), slot(1))))); !stmt.Same(list(got), list(want)) {
		t.Error(got)
	}
}

// TestInnerFirst asks for a coil that is set only when what it is set to has become a constant.
func TestInnerFirst(t *testing.T) {
	xor := bin(api.OpXor, slot(0), slot(1))
	for _, e := range []api.Expr{not(yes(0)), not(yes(1)), not(not(yes(1)))} {
		for _, l := range [][]api.Stmt{list(when(xor, list(put(1, e)), nil)), list(api.Stmt{Kind: api.StLoop, Body: list(when(xor, list(put(1, e)), nil))})} {
			got := Ladder(scope, l)
			inner := got
			if got[0].Kind == api.StLoop {
				inner = got[0].Body
			}
			if !Is(scope, inner[0]) || !stmt.Same(Ladder(scope, got), got) {
				t.Error(got)
			}
		}
	}
}

// all gathers all statements, with those within others.
func all(l []api.Stmt) []api.Stmt {
	var out []api.Stmt
	for _, x := range l {
		out = append(append(append(out, x), all(x.Body)...), all(x.Else)...)
		for _, a := range x.Arms {
			out = append(out, all(a.Body)...)
		}
	}
	return out
}

func TestLadder(t *testing.T) {
	rungs := 0
	for seed := range 1200 {
		s := sample.Source(seed)
		ladder := deep.Source(s)
		for i, f := range s.Funcs {
			sc := eval.Scope(s, i)
			ladder.Funcs[i].Body = Ladder(sc, f.Body)
			if !stmt.Same(Ladder(sc, ladder.Funcs[i].Body), ladder.Funcs[i].Body) {
				t.Fatal("once more", seed)
			}
			before, after := all(f.Body), all(ladder.Funcs[i].Body)
			for k, x := range after {
				kind := Kind(sc, x)
				if was := Kind(sc, before[k]); was != None && kind != was || kind != None && stmt.Count(list(x)) == stmt.Count(stmt.Erase(list(x))) && !Is(sc, x) {
					t.Fatal("a rung then", seed, x)
				}
				if kind != None {
					rungs++
				}
			}
		}
		m, _ := eval.New(s)
		x, e := eval.New(ladder)
		if e != api.OK {
			t.Fatal("right", seed)
		}
		in := sample.New(seed).Inputs()
		a, _, used1, _ := m.Scan(m.Start(), in, 5, 2000)
		b, _, used2, _ := x.Scan(m.Start(), in, 5, 2000)
		if !state.Same(a, b) || used1 != used2 {
			t.Fatal("meaning", seed)
		}
	}
	if rungs < 500 {
		t.Error("few", rungs)
	}
}
