package graph

import (
	"testing"

	"ladderback/api"
	"ladderback/build"
	"ladderback/decl"
	"ladderback/deep"
	"ladderback/lift"
	"ladderback/merge"
	"ladderback/sample"
	"ladderback/stmt"
)

func e(n int) api.Expr              { return api.Expr{Op: api.ExSlot, N: n} }
func put(cost, n int) api.Stmt      { return api.Stmt{Kind: api.StVar, Cost: cost, E: e(n)} }
func skip(cost int) api.Stmt        { return api.Stmt{Cost: cost} }
func list(l ...api.Stmt) []api.Stmt { return l }
func st(kind, cost int) api.Stmt    { return api.Stmt{Kind: kind, Cost: cost} }
func when(cost int, body, other []api.Stmt) api.Stmt {
	return api.Stmt{Kind: api.StIf, Cost: cost, E: e(0), Body: body, Else: other}
}
func loop(l ...api.Stmt) api.Stmt { return api.Stmt{Kind: api.StLoop, Body: l} }
func while(cost int, l ...api.Stmt) api.Stmt {
	return api.Stmt{Kind: api.StWhile, Cost: cost, E: e(0), Body: l}
}
func repeat(cost int, l ...api.Stmt) api.Stmt {
	return api.Stmt{Kind: api.StRepeat, Cost: cost, E: e(0), Body: l}
}
func cases(other []api.Stmt, l ...api.Arm) api.Stmt {
	return api.Stmt{Kind: api.StCase, Cost: 2, E: e(1), Arms: l, Else: other}
}
func arm(body []api.Stmt, labels ...int) api.Arm { return api.Arm{Labels: labels, Body: body} }

var exit, next, back = st(api.StExit, 0), st(api.StNext, 0), st(api.StReturn, 0)

func TestSameStatements(t *testing.T) {
	rows := []struct {
		a, b []api.Stmt
		same bool
	}{
		{nil, list(back), true}, {nil, list(st(api.StReturn, 1)), false}, {list(skip(1)), list(st(api.StReturn, 1)), true}, {list(skip(1)), list(skip(2)), false}, {list(put(3, 1)), list(skip(1), put(2, 1)), true}, {list(put(3, 1)), list(put(2, 1), skip(1)), false},
		{list(put(0, 1)), list(put(0, 2)), false}, {list(put(0, 1)), nil, false}, {list(back, put(0, 1)), nil, true},
		{list(when(2, list(put(1, 1)), list(back)), put(0, 2)), list(when(2, list(put(1, 1), put(0, 2)), nil)), true},
		{list(when(2, list(put(1, 1)), nil)), list(when(2, nil, list(put(1, 1)))), false}, {list(when(2, nil, nil)), list(when(1, nil, nil)), false}, {list(when(2, nil, nil)), list(skip(2)), false},
		{list(while(2, put(1, 1))), list(loop(when(2, list(put(1, 1)), list(exit)))), true}, {list(while(2, put(1, 1), next)), list(while(2, put(1, 1))), true}, {list(while(2, st(api.StNext, 1))), list(while(2, skip(1))), true}, {list(while(2, put(1, 1))), list(repeat(2, put(1, 1))), false},
		{list(repeat(2, put(1, 1))), list(loop(put(1, 1), when(2, list(exit), nil))), true}, {list(repeat(2, put(1, 1))), list(loop(put(1, 1), when(2, nil, list(exit)))), false},
		{list(while(2, put(1, 1))), list(when(2, list(put(1, 1), while(2, put(1, 1))), nil)), true},
		{list(loop()), list(loop(loop(skip(5)))), true}, {list(loop()), list(skip(3), loop(next)), true}, {list(loop()), list(loop(exit)), false}, {list(loop()), nil, false}, {list(loop(st(api.StExit, 4))), list(skip(4)), true},
		{list(cases(nil)), list(cases(nil, arm(nil, 3))), true}, {list(cases(nil)), list(cases(nil, arm(list(back), 3), arm(list(skip(0)), 9))), true}, {list(cases(nil)), list(cases(nil, arm(list(put(0, 1)), 3))), false},
		{list(cases(list(put(0, 1)), arm(nil, 1))), list(cases(list(put(0, 1)), arm(nil, 1), arm(list(put(0, 1)), 0, 5))), true}, {list(cases(nil, arm(list(put(0, 1)), 0, 1))), list(cases(nil, arm(list(put(0, 1)), 0), arm(list(put(0, 1)), 1))), true},
		{list(cases(nil, arm(list(put(0, 1)), 0, 1))), list(cases(nil, arm(list(put(0, 1)), 0, 2))), false}, {list(cases(list(put(0, 1)))), list(cases(nil)), false},
		{list(loop(cases(list(exit), arm(list(next), 1)), put(0, 1))), list(loop(cases(nil, arm(list(next), 1)), exit)), true},
		{list(st(api.StBlock, 1)), list(api.Stmt{Kind: api.StBlock, Cost: 1, Args: []api.Arg{{E: e(1)}}}), false},
		{list(st(api.StCall, 1)), list(st(api.StCall, 1)), true},
	}
	for i, r := range rows {
		a, b := Stmts(r.a), Stmts(r.b)
		if Same(a, b) != r.same || Same(b, a) != r.same || !Same(a, a) || !Same(b, b) || !Right(a) || !Right(b) {
			t.Error(i)
		}
	}
	if Right(Stmts(list(exit))) || Right(Stmts(list(next))) || Right(Stmts(list(repeat(0, next)))) {
		t.Error("in no loop")
	}
}

func TestRight(t *testing.T) {
	end := api.Event{S: back}
	fine := [][]api.Event{
		{end}, {{S: skip(1), Next: []int{0}}}, {{S: when(0, nil, nil), Next: []int{1, 1}}, end}, {{S: cases(nil), Next: []int{1}}, end}, {{S: cases(nil), Next: []int{1, 0, 1}}, end}, {{S: put(0, 1), Next: []int{1}}, end},
	}
	wrong := [][]api.Event{
		nil, {{S: back, Next: []int{0}}}, {{S: skip(1)}}, {{S: skip(1), Next: []int{0, 0}}}, {{S: skip(1), Next: []int{1}}}, {{S: skip(1), Next: []int{-1}}}, {{S: when(0, nil, nil), Next: []int{0}}}, {{S: cases(nil)}},
		{{S: exit, Next: []int{0}}}, {{S: exit}}, {{S: loop(), Next: []int{0}}}, {{S: while(0), Next: []int{0, 0}}}, {{S: st(99, 0)}}, {{S: when(0, list(back), nil), Next: []int{0, 0}}}, {{S: when(0, nil, list(back)), Next: []int{0, 0}}}, {{S: cases(nil, arm(nil, 1)), Next: []int{0}}}, {end, {S: skip(0)}},
	}
	for i, g := range fine {
		if !Right(g) || !Same(g, g) {
			t.Error("fine", i)
		}
	}
	for i, g := range wrong {
		if Right(g) || Same(g, g) || Same(fine[0], g) || Same(g, fine[0]) {
			t.Error("wrong", i)
		}
	}
}

func TestBlocks(t *testing.T) {
	end := api.Lifted{End: api.OpRet, Cost: 1}
	rows := []struct {
		l    []api.Lifted
		want []api.Stmt
	}{
		{nil, nil}, {[]api.Lifted{end}, list(skip(1))},
		{[]api.Lifted{{End: api.OpJump, Cost: 2, Body: list(put(1, 1)), Next: []int{1}}, end}, list(put(1, 1), skip(3))},
		{[]api.Lifted{{End: api.OpFalse, Cost: 2, E: e(0), Next: []int{1, 2}}, {End: api.OpRet, Body: list(put(1, 1))}, end}, list(when(2, list(put(1, 1)), list(skip(1))))},
		{[]api.Lifted{{End: api.OpSwitch, Cost: 2, E: e(1), Next: []int{1, 2, 2}}, {End: api.OpJump, Body: list(put(1, 1)), Next: []int{2}}, end}, list(cases(nil, arm(list(put(1, 1)), 0)), skip(1))},
		{[]api.Lifted{{End: api.OpFalse, Cost: 2, E: e(0), Next: []int{0, 1}}, end}, list(while(2), skip(1))},
		{[]api.Lifted{{End: api.OpJump, Cost: 2, Next: []int{0}}}, list(loop())},
	}
	for i, r := range rows {
		if g := Blocks(r.l); !Right(g) || !Same(g, Stmts(r.want)) {
			t.Error(i)
		}
	}
	own := []api.Lifted{{End: api.OpFalse, E: e(0), Next: []int{1, 1}}, end}
	Blocks(own)[2].Next[0] = 0
	if own[0].Next[0] != 1 {
		t.Error("shared")
	}
	for i, b := range []api.Lifted{{End: api.OpJump}, {End: api.OpJump, Next: []int{0, 0}}, {End: api.OpJump, Next: []int{1}}, {End: api.OpJump, Next: []int{-1}}, {End: api.OpFalse, Next: []int{0}}, {End: api.OpFalse, Next: []int{0, 0, 0}}, {End: api.OpSwitch}, {End: api.OpRet, Next: []int{0}}, {End: api.OpAdd}, {}} {
		if len(Blocks([]api.Lifted{b})) != 0 {
			t.Error("wrong", i)
		}
	}
}

// callless tells statements without calls of functions.
func callless(l []api.Stmt) []api.Stmt {
	var out []api.Stmt
	for _, x := range deep.Stmts(l) {
		if x.Kind == api.StCall && (x.N == 1) {
			continue
		}
		x.Body, x.Else = callless(x.Body), callless(x.Else)
		for i, a := range x.Arms {
			x.Arms[i].Body = callless(a.Body)
		}
		out = append(out, x)
	}
	return out
}

// TestCompiled holds what statements do against what their code, lifted, does.
func TestCompiled(t *testing.T) {
	for seed := range 1500 {
		s := sample.Source(seed)
		for i, f := range s.Funcs {
			s.Funcs[i].Body = stmt.Erase(merge.Split(callless(f.Body)))
		}
		p, errno := build.Prog(s)
		if errno != api.OK {
			t.Fatal(seed, errno)
		}
		for u, f := range s.Funcs {
			l, temps, ok := lift.Unit(p, u)
			if !ok || len(temps) > 0 {
				t.Fatal("lift", seed, u)
			}
			costs := append(build.Costs(f.Body, decl.Scope(p, u)), skip(1))
			if !Same(Blocks(l), Stmts(costs)) || !Same(Stmts(costs), Blocks(l)) {
				t.Fatal("same", seed, u)
			}
			l[0].Cost++
			if l[0].End != api.OpJump && Same(Blocks(l), Stmts(costs)) {
				t.Fatal("another cost", seed, u)
			}
		}
	}
}
