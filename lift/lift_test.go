package lift

import (
	"reflect"
	"testing"

	"ladderback/api"
	"ladderback/eval"
	"ladderback/expr"
	"ladderback/flow"
	"ladderback/sample"
	"ladderback/state"
	"ladderback/stmt"
	"ladderback/vm"
)

const most = 1<<63 - 1

func in(l ...int) api.Instr {
	l = append(l, 0, 0)
	return api.Instr{Op: l[0], A: l[1], B: l[2]}
}

func number(n int) api.Expr { return api.Expr{Op: api.ExConst, T: api.Int, N: n} }

// run tells a source that does what lifted blocks do.
func run(p api.Prog) api.Source {
	s := api.Source{Vars: p.Vars, Blocks: p.Blocks}
	for u, x := range p.Units {
		l, temps, _ := Unit(p, u)
		f := api.Func{Name: x.Name, Params: x.Params, Result: x.Result, Locals: append(append(append([]int{}, x.Locals...), temps...), api.Int)}
		at := len(Scope(p, u, temps).Slots)
		to := func(n int) []api.Stmt { return []api.Stmt{{Kind: api.StSlot, N: at, E: number(n)}} }
		var arms []api.Arm
		for k, b := range l {
			body := append([]api.Stmt{}, b.Body...)
			switch b.End {
			case api.OpJump:
				body = append(append(body, api.Stmt{Cost: b.Cost}), to(b.Next[0])...)
			case api.OpFalse:
				body = append(body, api.Stmt{Kind: api.StIf, Cost: b.Cost, E: b.E, Body: to(b.Next[0]), Else: to(b.Next[1])})
			case api.OpSwitch:
				x := api.Stmt{Kind: api.StCase, Cost: b.Cost, E: b.E, Else: to(b.Next[len(b.Next)-1])}
				for v := range len(b.Next) - 1 {
					x.Arms = append(x.Arms, api.Arm{Labels: []int{v}, Body: to(b.Next[v])})
				}
				body = append(body, x)
			default:
				body = append(body, api.Stmt{Kind: api.StReturn, Cost: b.Cost})
			}
			arms = append(arms, api.Arm{Labels: []int{k}, Body: body})
		}
		f.Body = append(to(0), api.Stmt{Kind: api.StLoop, Body: []api.Stmt{{Kind: api.StCase, E: api.Expr{Op: api.ExSlot, N: at}, Arms: arms, Else: []api.Stmt{{Kind: api.StReturn}}}}})
		s.Funcs = append(s.Funcs, f)
	}
	return s
}

// hold holds some scans of a program against those of its lifted blocks.
func hold(t *testing.T, what int, p api.Prog) {
	m, e := vm.New(p)
	if e != api.OK {
		t.Fatal("program", what, e)
	}
	x, e := eval.New(run(p))
	if e != api.OK {
		t.Fatal("source", what, e)
	}
	s := m.Start()
	d := sample.New(what + 77)
	for range 4 {
		inputs := d.Inputs()
		for _, fuel := range []int{3, 25, 400} {
			a, _, used1, _ := m.Scan(s, inputs, 7, fuel)
			b, _, used2, _ := x.Scan(s, inputs, 7, fuel)
			if (a.Fault == 0) != (b.Fault == 0) || used1 != used2 || a.Fault == 0 && !state.Same(a, b) {
				t.Fatal("scan", what, a, b, used1, used2)
			}
			if a.Fault > api.FaultWatch {
				if b, _, _, _ := x.Scan(s, inputs, 7, fuel+api.MaxCode); b.Fault != a.Fault {
					t.Fatal("fault", what, a.Fault, b.Fault)
				}
			}
		}
		s, _, _, _ = m.Scan(s, inputs, 7, 400)
		s.Fault = 0
	}
}

// form asks what is promised of the form of lifted units.
func form(t *testing.T, what int, p api.Prog) {
	for u := range p.Units {
		l, temps, ok := Unit(p, u)
		code := p.Units[u].Code
		nodes := flow.Nodes(code)
		if !ok || len(l) != len(nodes) || len(temps) > 40*len(code) {
			t.Fatal("form", what, u)
		}
		scope := Scope(p, u, temps)
		for k, b := range l {
			last := code[nodes[k].To-1].Op
			if last != api.OpFalse && last != api.OpSwitch && last != api.OpRet {
				last = api.OpJump
			}
			wants := map[int]int{api.OpFalse: api.Bool, api.OpSwitch: api.Int}[last]
			if b.End != last || !reflect.DeepEqual(b.Next, nodes[k].Next) || expr.Type(scope, b.E) != wants || wants == 0 && !expr.Same(b.E, api.Expr{}) || !stmt.Right(scope, b.Body) {
				t.Fatal("block", what, u, k, b)
			}
			cost := b.Cost
			for _, x := range b.Body {
				cost += x.Cost
				if x.Kind < api.StVar || x.Kind > api.StCall || len(x.Args) > 0 {
					t.Fatal("kind", what, u, k, x)
				}
			}
			if cost != nodes[k].To-nodes[k].From {
				t.Fatal("cost", what, u, k, cost)
			}
		}
	}
}

func TestSamples(t *testing.T) {
	for seed := range 3000 {
		p := sample.Prog(seed)
		form(t, seed, p)
		hold(t, seed, p)
	}
}

func prog(code ...api.Instr) api.Prog {
	return api.Prog{Consts: []api.Const{{T: api.Int, V: 1}, {T: api.Int}}, Vars: []api.Var{{T: api.Int, N: 1}, {T: api.Int, N: 2}, {T: api.Int, N: 1, Area: api.In}}, Units: []api.Unit{{Locals: []int{api.Int}, Code: code}}}
}

func TestSmallOnes(t *testing.T) {
	l, temps, ok := Unit(prog(in(api.OpNop), in(api.OpRet)), 0)
	if !ok || len(temps) != 0 || len(l) != 1 || len(l[0].Body) != 0 || l[0].End != api.OpRet || l[0].Cost != 2 || len(l[0].Next) != 0 {
		t.Error(l, temps, ok)
	}
	// A value that lies on the stack while its variable is stored into.
	l, temps, _ = Unit(prog(in(api.OpLoad, 0), in(api.OpConst, 0), in(api.OpStore, 0), in(api.OpPut, 0), in(api.OpRet)), 0)
	if len(temps) != 1 || len(l[0].Body) != 3 || l[0].Body[0].Kind != api.StSlot || l[0].Body[0].N != 1 || l[0].Body[1].Kind != api.StVar || l[0].Body[2].E.N != 1 {
		t.Error(l, temps)
	}
	// One that isn't changed needs none.
	_, temps, _ = Unit(prog(in(api.OpLoad, 0), in(api.OpConst, 0), in(api.OpPut, 0), in(api.OpStore, 0), in(api.OpRet)), 0)
	if len(temps) != 0 {
		t.Error(temps)
	}
	for _, u := range []int{-1, 1, most} {
		if l, temps, ok := Unit(prog(in(api.OpRet)), u); ok || len(l) > 0 || len(temps) > 0 {
			t.Error(u)
		}
	}
	if l, temps, ok := Unit(prog(in(api.OpPop), in(api.OpRet)), 0); ok || len(l) > 0 || len(temps) > 0 {
		t.Error("not accepted")
	}
	if s := Scope(prog(in(api.OpRet)), 0, []int{api.Time}); !reflect.DeepEqual(s.Slots, []int{api.Int, api.Time}) {
		t.Error(s.Slots)
	}
}

// TestChanges has values that lie on the stack while what they were read from changes.
func TestChanges(t *testing.T) {
	add, store, one := in(api.OpAdd, api.Int), in(api.OpStore, 3), in(api.OpConst, 0)
	zero, conv, truth := in(api.OpConst, 1), in(api.OpConv, api.Bool, api.Int), in(api.OpConst, 2)
	rows := []struct{ read, change []api.Instr }{
		{[]api.Instr{in(api.OpLoad, 0)}, []api.Instr{in(api.OpLoad, 2), in(api.OpStore, 0)}},
		{[]api.Instr{in(api.OpGet, 0)}, []api.Instr{in(api.OpLoad, 2), in(api.OpPut, 0)}},
		{[]api.Instr{one, in(api.OpItem, 1)}, []api.Instr{one, in(api.OpLoad, 2), in(api.OpKeep, 1)}},
		{[]api.Instr{in(api.OpOut, 0, 0), conv}, []api.Instr{truth, in(api.OpSet, 0, 0)}},
		{[]api.Instr{in(api.OpOut, 0, 1), conv}, []api.Instr{truth, in(api.OpSet, 0, 0), in(api.OpRun, 0)}},
		{[]api.Instr{in(api.OpLoad, 0)}, []api.Instr{in(api.OpCall, 1)}},
		{[]api.Instr{one, in(api.OpItem, 1)}, []api.Instr{in(api.OpCall, 1)}},
		{[]api.Instr{in(api.OpOut, 0, 1), conv}, []api.Instr{in(api.OpCall, 1)}},
	}
	behind := [][]api.Instr{nil, {one, add}, {one, in(api.OpSwap), add, one, add}, {in(api.OpDup), add}, {zero, in(api.OpSwap), add}}
	for i, r := range rows {
		for k, more := range behind {
			code := append(append(append([]api.Instr{}, r.read...), more...), r.change...)
			p := prog(append(code, store, in(api.OpRet))...)
			p.Consts = append(p.Consts, api.Const{T: api.Bool, V: 1})
			p.Vars = append(p.Vars, api.Var{T: api.Int, N: 1})
			p.Blocks = []api.Block{{Kind: api.Rtrig}}
			p.Units = append(p.Units, api.Unit{Code: []api.Instr{in(api.OpLoad, 2), in(api.OpStore, 0), one, in(api.OpLoad, 2), in(api.OpKeep, 1), truth, in(api.OpSet, 0, 0), in(api.OpRun, 0), in(api.OpRet)}})
			form(t, i, p)
			m, _ := vm.New(p)
			x, _ := eval.New(run(p))
			a, _, used1, _ := m.Scan(m.Start(), []int{9}, 0, 99)
			b, _, used2, _ := x.Scan(m.Start(), []int{9}, 0, 99)
			if a.Fault != 0 || !state.Same(a, b) || used1 != used2 || a.Vars[3][0] > 5 {
				t.Error(i, k, a, b)
			}
		}
	}
}

func TestOrders(t *testing.T) {
	zero := []api.Instr{in(api.OpLoad, 2), in(api.OpConst, 1), in(api.OpDiv, api.Int)}
	index := []api.Instr{in(api.OpLoad, 2), in(api.OpItem, 1)}
	join := func(l ...[]api.Instr) []api.Instr {
		var out []api.Instr
		for _, x := range l {
			out = append(out, x...)
		}
		return append(out, in(api.OpRet))
	}
	pop2, swap, keep := []api.Instr{in(api.OpPop), in(api.OpPop)}, []api.Instr{in(api.OpSwap)}, []api.Instr{in(api.OpLoad, 2), in(api.OpConst, 0), in(api.OpKeep, 1)}
	rows := [][]api.Instr{
		join(zero, index, pop2), join(index, zero, pop2), join(zero, index, swap, pop2), join(index, zero, swap, []api.Instr{in(api.OpSub, api.Int), in(api.OpStore, 0)}),
		join(zero, []api.Instr{in(api.OpLoad, 0), in(api.OpLoad, 2), in(api.OpAdd, api.Int), in(api.OpItem, 1), in(api.OpConst, 0), in(api.OpStore, 0)}, pop2),
		join(zero, []api.Instr{in(api.OpCall, 1)}, pop2[:1]), join([]api.Instr{in(api.OpCall, 1)}, zero, pop2[:1]),
		join(zero, keep, pop2[:1]), join(keep, zero, pop2[:1]), join(zero, []api.Instr{in(api.OpDup)}, index, []api.Instr{in(api.OpPop)}, pop2),
		join(index, []api.Instr{in(api.OpConst, 0), in(api.OpSwap), in(api.OpJump, 5), in(api.OpSwap), in(api.OpSub, api.Int), in(api.OpStore, 0)}),
		join([]api.Instr{in(api.OpConst, 0), in(api.OpLoad, 2), in(api.OpJump, 3), in(api.OpSwap), in(api.OpJump, 5), in(api.OpSwap), in(api.OpSub, api.Int), in(api.OpStore, 0)}),
	}
	for i, code := range rows {
		p := prog(code...)
		p.Units = append(p.Units, api.Unit{Code: join(index, pop2[:1])})
		form(t, i, p)
		m, _ := vm.New(p)
		x, _ := eval.New(run(p))
		for _, v := range []int{0, 1, 5} {
			a, _, used1, _ := m.Scan(m.Start(), []int{v}, 0, 99)
			b, _, used2, _ := x.Scan(m.Start(), []int{v}, 0, 99)
			if !state.Same(a, b) || used1 != used2 {
				t.Error(i, v, a, b)
			}
		}
	}
}
