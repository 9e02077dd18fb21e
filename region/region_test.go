package region

import (
	"testing"

	"ladderback/api"
	"ladderback/build"
	"ladderback/eval"
	"ladderback/graph"
	"ladderback/lift"
	"ladderback/sample"
	"ladderback/state"
	"ladderback/stmt"
	"ladderback/vm"
)

func e(n int) api.Expr              { return api.Expr{Op: api.ExSlot, N: n} }
func put(n int) api.Stmt            { return api.Stmt{Kind: api.StVar, Cost: 1, E: e(n)} }
func list(l ...api.Stmt) []api.Stmt { return l }
func st(kind int) api.Stmt          { return api.Stmt{Kind: kind} }
func when(body, other []api.Stmt) api.Stmt {
	return api.Stmt{Kind: api.StIf, Cost: 2, E: e(0), Body: body, Else: other}
}
func jump(n, to int) api.Lifted {
	return api.Lifted{Body: list(put(n)), End: api.OpJump, Next: []int{to}}
}
func either(a, b int) api.Lifted {
	return api.Lifted{End: api.OpFalse, E: e(0), Cost: 2, Next: []int{a, b}}
}
func end(n int) api.Lifted { return api.Lifted{Body: list(put(n)), End: api.OpRet, Cost: 1} }
func many(l ...int) api.Lifted {
	return api.Lifted{End: api.OpSwitch, E: e(1), Cost: 2, Next: l}
}
func blocks(l ...api.Lifted) []api.Lifted { return l }

var back = api.Stmt{Kind: api.StReturn, Cost: 1}

func TestShapes(t *testing.T) {
	exit := st(api.StExit)
	while := api.Stmt{Kind: api.StWhile, Cost: 2, E: e(0), Body: list(put(1))}
	cases := api.Stmt{Kind: api.StCase, Cost: 2, E: e(1), Arms: []api.Arm{{Labels: []int{0, 2}, Body: list(put(1))}}}
	rows := []struct {
		l    []api.Lifted
		want []api.Stmt
	}{
		{nil, nil}, {blocks(end(7)), list(put(7), back)},
		{blocks(either(1, 2), jump(1, 3), jump(2, 3), end(3)), list(when(list(put(1)), list(put(2))), put(3), back)},
		{blocks(either(1, 2), jump(1, 2), end(3)), list(when(list(put(1)), nil), put(3), back)},
		{blocks(either(1, 1), end(3)), list(when(nil, nil), put(3), back)},
		{blocks(either(1, 2), end(1), end(2)), list(when(nil, list(put(2), back)), put(1), back)},
		{blocks(jump(0, 1), either(2, 3), jump(1, 1), end(4)), list(put(0), while, put(4), back)},
		{blocks(jump(0, 1), jump(1, 2), either(3, 1), end(4)), list(put(0), api.Stmt{Kind: api.StRepeat, Cost: 2, E: e(0), Body: list(put(1))}, put(4), back)},
		{blocks(jump(0, 0)), list(api.Stmt{Kind: api.StLoop, Body: list(put(0))})},
		{blocks(many(1, 2, 1, 2), jump(1, 2), end(3)), list(cases, put(3), back)},
		{blocks(jump(0, 1), jump(1, 2), either(3, 1), jump(2, 1)), list(put(0), api.Stmt{Kind: api.StLoop, Body: list(put(1), when(list(put(2)), nil))})},
		{blocks(either(1, 3), either(2, 3), jump(2, 4), jump(3, 4), end(4)), list(api.Stmt{Kind: api.StLoop, Body: list(when(list(when(list(put(2), exit), nil)), nil), put(3), exit)}, put(4), back)},
	}
	for i, r := range rows {
		got, ok := Shape(r.l)
		if !ok || !stmt.Same(got, r.want) && !graph.Same(graph.Stmts(got), graph.Stmts(r.want)) {
			t.Error(i, got, ok)
		}
		if i != 5 && i < 9 && !stmt.Same(got, r.want) {
			t.Error("form", i, got)
		}
	}
	two := blocks(either(1, 2), either(2, 3), either(1, 3), end(3))
	if got, ok := Shape(two); ok || len(got) > 0 {
		t.Error("a loop that is entered at two places", got)
	}
	for i, l := range [][]api.Lifted{blocks(jump(0, 1)), blocks(jump(0, -1)), blocks(api.Lifted{End: api.OpFalse, Next: []int{0}}), blocks(api.Lifted{}), blocks(api.Lifted{End: api.OpRet, Body: list(exit)})} {
		if got, ok := Shape(l); ok || len(got) > 0 {
			t.Error("wrong", i)
		}
	}
}

// TestTrees asks for all graphs in which each block has just one ahead of it.
func TestTrees(t *testing.T) {
	for seed := range 60 {
		d := sample.New(seed)
		size := []int{3, 40, 1000}[seed%3]
		var l []api.Lifted
		l = append(l, api.Lifted{})
		for i := 0; i < len(l); i++ {
			free := size - len(l)
			take := func(n int) []int {
				var out []int
				for range n {
					l = append(l, api.Lifted{})
					out = append(out, len(l)-1)
				}
				return out
			}
			switch k := d.N(5); {
			case free >= 1 && k == 0:
				l[i] = jump(d.N(3), take(1)[0])
			case free >= 2 && k < 3:
				next := take(2)
				l[i] = either(next[0], next[1])
			case free >= 1 && k == 3:
				next := take(1)[0]
				l[i] = either(next, next)
			case free >= 4 && k == 4:
				next := take(1 + d.N(min(free, 200)))
				l[i] = many(append(next, next[d.N(len(next))], next[0])...)
			default:
				l[i] = end(d.N(3))
			}
			l[i].Cost = d.N(3)
		}
		got, ok := Shape(l)
		if !ok || !graph.Same(graph.Blocks(l), graph.Stmts(got)) {
			t.Fatal(seed, len(l), ok)
		}
	}
	var chain []api.Lifted
	for i := range 999 {
		chain = append(chain, either(i+1, i+1))
	}
	if _, ok := Shape(append(chain, end(1))); !ok {
		t.Error("chain")
	}
	wide := blocks(many(make([]int, 256)...))
	for i := range 256 {
		wide[0].Next[i] = i + 1
		wide = append(wide, end(i))
	}
	if _, ok := Shape(wide); !ok {
		t.Error("wide")
	}
	alone := blocks(end(1), jump(1, 1), either(3, 3), end(3))
	if _, ok := Shape(alone); !ok {
		t.Error("blocks that are never met")
	}
}

func TestFalls(t *testing.T) {
	exit, next := st(api.StExit), st(api.StNext)
	loop := func(l ...api.Stmt) api.Stmt { return api.Stmt{Kind: api.StLoop, Body: l} }
	cases := func(other []api.Stmt, l ...[]api.Stmt) api.Stmt {
		x := api.Stmt{Kind: api.StCase, Else: other}
		for i, b := range l {
			x.Arms = append(x.Arms, api.Arm{Labels: []int{i}, Body: b})
		}
		return x
	}
	rows := []struct {
		l    []api.Stmt
		want bool
	}{
		{nil, true}, {list(exit), false}, {list(next), false}, {list(back), false}, {list(exit, put(1)), true}, {list(back, st(api.StSkip)), true},
		{list(when(list(exit), list(back))), false}, {list(when(list(exit), nil)), true}, {list(when(nil, list(exit))), true},
		{list(cases(list(back), list(exit))), false}, {list(cases(list(back), nil)), true}, {list(cases(nil, list(exit))), true}, {list(cases(list(back))), false},
		{list(loop()), false}, {list(loop(exit)), true}, {list(loop(loop(exit))), false}, {list(loop(when(nil, list(exit)))), true}, {list(loop(cases(nil, list(exit)))), true}, {list(loop(api.Stmt{Kind: api.StRepeat, Body: list(exit)})), false}, {list(loop(next)), false},
		{list(api.Stmt{Kind: api.StWhile, Body: list(back)}), true}, {list(api.Stmt{Kind: api.StRepeat, Body: list(back)}), true},
	}
	for i, r := range rows {
		if Falls(r.l) != r.want {
			t.Error(i)
		}
	}
	if !Bare(nil) || !Bare(list(st(api.StSkip), st(api.StSkip))) || Bare(list(st(api.StSkip), back)) {
		t.Error("bare")
	}
}

// shaped tells the source of a program, if all of its units can be shaped.
func shaped(t *testing.T, p api.Prog) (api.Source, bool) {
	s := api.Source{Vars: p.Vars, Blocks: p.Blocks}
	for u, x := range p.Units {
		l, temps, _ := lift.Unit(p, u)
		body, ok := Shape(l)
		if !ok {
			return s, false
		}
		if !graph.Same(graph.Blocks(l), graph.Stmts(body)) {
			t.Error("go together")
		}
		s.Funcs = append(s.Funcs, api.Func{Name: x.Name, Params: x.Params, Result: x.Result, Locals: append(append([]int{}, x.Locals...), temps...), Body: body})
	}
	return s, true
}

func hold(t *testing.T, what int, p api.Prog) bool {
	s, ok := shaped(t, p)
	if !ok {
		return false
	}
	m, _ := vm.New(p)
	x, errno := eval.New(s)
	if errno != api.OK {
		t.Fatal("right", what, errno)
	}
	now := m.Start()
	d := sample.New(what)
	for range 3 {
		in := d.Inputs()
		a, _, used1, _ := m.Scan(now, in, 7, 500)
		b, _, used2, _ := x.Scan(now, in, 7, 500)
		if (a.Fault == 0) != (b.Fault == 0) || used1 != used2 || a.Fault == 0 && !state.Same(a, b) {
			t.Fatal("meaning", what)
		}
		now = a
		now.Fault = 0
	}
	return true
}

func TestSamples(t *testing.T) {
	raw, built := 0, 0
	for seed := range 1500 {
		if hold(t, seed, sample.Prog(seed)) {
			raw++
		}
		p, _ := build.Prog(sample.Source(seed))
		if hold(t, seed, p) {
			built++
		}
	}
	t.Log(raw, built)
	if raw < 500 || built < 700 {
		t.Error("few are shaped", raw, built)
	}
}
