package build

import (
	"reflect"
	"testing"

	"ladderback/api"
	"ladderback/deep"
	"ladderback/eval"
	"ladderback/sample"
	"ladderback/state"
	"ladderback/stmt"
	"ladderback/verify"
	"ladderback/vm"
)

func c(v int) api.Expr                { return api.Expr{Op: api.ExConst, T: api.Int, N: v} }
func slot(n int) api.Expr             { return api.Expr{Op: api.ExSlot, N: n} }
func list(l ...api.Stmt) []api.Stmt   { return l }
func put(cost int) api.Stmt           { return api.Stmt{Kind: api.StVar, Cost: cost, E: add(c(1), c(2))} }
func add(l ...api.Expr) api.Expr      { return api.Expr{Op: api.ExBin, M: api.OpAdd, L: l} }
func st(kind int) api.Stmt            { return api.Stmt{Kind: kind} }
func skip(cost int) api.Stmt          { return api.Stmt{Cost: cost} }
func code(l ...api.Instr) []api.Instr { return l }

var scope = api.Scope{Vars: []api.Var{{T: api.Int, N: 1}, {T: api.Int, N: 2}}, Blocks: []api.Block{{Kind: api.Ctu}}, Sigs: []api.Sig{{}, {Params: []int{api.Int}, Result: api.Int}, {}}, Slots: []int{api.Bool, api.Int}}

func TestCosts(t *testing.T) {
	whole := func(kind, cost int, body, other []api.Stmt) api.Stmt {
		e := slot(0)
		if kind == api.StCase {
			e = slot(1)
		}
		if kind == api.StLoop {
			e = api.Expr{}
		}
		return api.Stmt{Kind: kind, Cost: cost, E: e, Body: body, Else: other}
	}
	cost := func(x api.Stmt, n int) api.Stmt { x.Cost = n; return x }
	block := api.Stmt{Kind: api.StBlock, Args: []api.Arg{{Field: 0, E: slot(0)}, {Field: 2, E: add(c(1), c(2))}}}
	call := api.Stmt{Kind: api.StCall, N: 1, M: 1, L: []api.Expr{c(1)}}
	drop := api.Stmt{Kind: api.StCall, N: 1, M: -1, L: []api.Expr{c(1)}}
	none := api.Stmt{Kind: api.StCall, N: 2, M: -1}
	item := api.Stmt{Kind: api.StItem, N: 1, I: c(0), E: add(c(1), c(2))}
	rows := [][2][]api.Stmt{
		{nil, nil}, {list(skip(4), put(99), skip(1)), list(put(4))},
		{list(block, call, drop, none, item, api.Stmt{Kind: api.StField, M: 2, E: c(1)}, api.Stmt{Kind: api.StSlot, N: 1, E: c(1)}, st(api.StReturn)), list(cost(block, 7), cost(call, 3), cost(drop, 3), cost(none, 1), cost(item, 5), api.Stmt{Kind: api.StField, M: 2, Cost: 2, E: c(1)}, api.Stmt{Kind: api.StSlot, N: 1, Cost: 2, E: c(1)}, cost(st(api.StReturn), 1))},
		{list(whole(api.StIf, 7, list(put(0)), list(skip(3)))), list(whole(api.StIf, 2, list(put(4)), nil))},
		{list(whole(api.StIf, 7, nil, list(put(0)))), list(whole(api.StIf, 2, list(skip(1)), list(put(4))))},
		{list(whole(api.StWhile, 7, list(st(api.StExit), st(api.StNext)), nil)), list(whole(api.StWhile, 3, list(cost(st(api.StExit), 1), cost(st(api.StNext), 1), skip(1)), nil))},
		{list(whole(api.StLoop, 0, list(st(api.StExit)), nil)), list(whole(api.StLoop, 0, list(skip(1), cost(st(api.StExit), 1), skip(1)), nil))},
		{list(whole(api.StRepeat, 0, list(put(0), skip(3)), nil)), list(whole(api.StRepeat, 2, list(skip(1), put(4)), nil))},
		{list(api.Stmt{Kind: api.StCase, E: add(slot(1), c(2)), Arms: []api.Arm{{Labels: []int{1}, Body: list(put(0))}, {Labels: []int{2}}}}), list(api.Stmt{Kind: api.StCase, Cost: 4, E: add(slot(1), c(2)), Arms: []api.Arm{{Labels: []int{1}, Body: list(put(4), skip(1))}, {Labels: []int{2}, Body: list(skip(1))}}, Else: list(skip(1))})},
	}
	for i, r := range rows {
		was := deep.Stmts(r[0])
		if got := Costs(r[0], scope); !stmt.Same(got, r[1]) || !stmt.Same(r[0], was) || !stmt.Same(Costs(got, scope), got) {
			t.Error(i, got)
		}
	}
}

func TestProg(t *testing.T) {
	p, e := Prog(api.Source{Funcs: []api.Func{{}}})
	if e != api.OK || len(p.Units) != 1 || !reflect.DeepEqual(p.Units[0].Code, code(api.Instr{Op: api.OpRet})) {
		t.Error(p, e)
	}
	s := api.Source{Vars: []api.Var{{Name: "x", T: api.Int, N: 1}}, Blocks: []api.Block{{Name: "k", Kind: 1}}, Funcs: []api.Func{
		{Name: "m", Locals: []int{1}, Body: list(put(0))},
		{Name: "f", Params: []int{api.Int}, Result: api.Int, Locals: []int{2}, Body: list(api.Stmt{Kind: api.StSlot, E: add(c(3), c(1))})},
	}}
	p, e = Prog(s)
	want := api.Prog{Consts: []api.Const{{T: 2, V: 1}, {T: 2, V: 2}, {T: 2, V: 3}}, Vars: s.Vars, Blocks: s.Blocks, Units: []api.Unit{
		{Name: "m", Locals: []int{1}, Code: code(api.Instr{Op: api.OpConst}, api.Instr{Op: api.OpConst, A: 1}, api.Instr{Op: api.OpAdd, A: 2}, api.Instr{Op: api.OpStore}, api.Instr{Op: api.OpRet})},
		{Name: "f", Params: []int{api.Int}, Result: api.Int, Locals: []int{2}, Code: code(api.Instr{Op: api.OpConst, A: 2}, api.Instr{Op: api.OpConst}, api.Instr{Op: api.OpAdd, A: 2}, api.Instr{Op: api.OpPut}, api.Instr{Op: api.OpRet})},
	}}
	if e != api.OK || !reflect.DeepEqual(p, want) {
		t.Error(p, e)
	}
	p.Vars[0].Name, p.Units[1].Params[0] = "y", 9
	if s.Vars[0].Name != "x" || s.Funcs[1].Params[0] != api.Int {
		t.Error("shared")
	}
}

func TestErrors(t *testing.T) {
	var many, long []api.Stmt
	for i := range 1025 {
		many = append(many, api.Stmt{Kind: api.StVar, E: c(i)})
	}
	for range api.MaxCode / 2 {
		long = append(long, api.Stmt{Kind: api.StVar, E: c(1)})
	}
	high := c(1)
	for range api.MaxStack {
		high = add(c(1), high)
	}
	source := func(l []api.Stmt) api.Source {
		return api.Source{Vars: []api.Var{{T: api.Int, N: 1}}, Funcs: []api.Func{{Body: l}}}
	}
	rows := []struct {
		s api.Source
		e api.Errno
	}{
		{api.Source{}, api.ErrLimit}, {source(list(st(api.StExit))), api.ErrType}, {source(many), api.ErrLimit}, {source(many[:1024]), api.OK},
		{source(long), api.ErrLimit}, {source(long[1:]), api.OK}, {source(list(api.Stmt{Kind: api.StVar, E: high})), api.ErrStack}, {source(list(api.Stmt{Kind: api.StVar, E: high.L[1]})), api.OK},
	}
	for i, r := range rows {
		p, e := Prog(r.s)
		if e != r.e || e != api.OK && !reflect.DeepEqual(p, api.Prog{}) || e == api.OK && !verify.Right(p) {
			t.Error(i, e)
		}
	}
}

func TestSamples(t *testing.T) {
	for seed := range 800 {
		s := sample.Source(seed)
		p, e := Prog(s)
		if e != api.OK {
			t.Fatal(seed, e)
		}
		m, e1 := vm.New(p)
		x, e2 := eval.New(s)
		costly := deep.Source(s)
		for i, f := range costly.Funcs {
			costly.Funcs[i].Body = append(Costs(f.Body, eval.Scope(s, i)), skip(1))
		}
		y, e3 := eval.New(costly)
		if e1 != api.OK || e2 != api.OK || e3 != api.OK {
			t.Fatal("right", seed, e1, e2, e3)
		}
		now := m.Start()
		d := sample.New(seed)
		for range 3 {
			in := d.Inputs()
			a, _, used1, _ := m.Scan(now, in, 6, 4000)
			b, _, _, _ := x.Scan(now, in, 6, 9000)
			z, _, used2, _ := y.Scan(now, in, 6, 4000)
			watch := a.Fault == api.FaultWatch || b.Fault == api.FaultWatch
			if !watch && !state.Same(a, b) {
				t.Fatal("meaning", seed)
			}
			if used1 != used2 || !state.Same(a, z) && a.Fault == api.FaultNone || (a.Fault == 0) != (z.Fault == 0) {
				t.Fatal("costs", seed, used1, used2, a.Fault, z.Fault)
			}
			if now = a; now.Fault != 0 {
				now.Fault = 0
			}
		}
	}
}
