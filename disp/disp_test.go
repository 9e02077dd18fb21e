package disp

import (
	"testing"

	"ladderback/api"
	"ladderback/eval"
	"ladderback/lift"
	"ladderback/sample"
	"ladderback/state"
	"ladderback/stmt"
	"ladderback/vm"
)

func e(n int) api.Expr { return api.Expr{Op: api.ExSlot, N: n} }

func to(n int) api.Stmt { return api.Stmt{Kind: api.StSlot, N: 5, E: number(n)} }

func list(l ...api.Stmt) []api.Stmt { return l }

func TestMake(t *testing.T) {
	put := api.Stmt{Kind: api.StVar, Cost: 3, E: e(0)}
	l := []api.Lifted{
		{Body: list(put), End: api.OpJump, Next: []int{1}},
		{End: api.OpJump, Cost: 2, Next: []int{2}},
		{End: api.OpFalse, Cost: 4, E: e(1), Next: []int{3, 0}},
		{End: api.OpSwitch, Cost: 1, E: e(2), Next: []int{4, 0, 4, 1, 0}},
		{Body: list(put), End: api.OpRet, Cost: 7},
		{End: api.OpSwitch, E: e(2), Next: []int{4}},
	}
	arm := func(n int, l ...api.Stmt) api.Arm { return api.Arm{Labels: []int{n}, Body: l} }
	want := list(to(0), api.Stmt{Kind: api.StLoop, Body: list(api.Stmt{Kind: api.StCase, E: e(5), Else: list(api.Stmt{Kind: api.StReturn}), Arms: []api.Arm{
		arm(0, put, to(1)), arm(1, api.Stmt{Cost: 2}, to(2)), arm(2, api.Stmt{Kind: api.StIf, Cost: 4, E: e(1), Body: list(to(3)), Else: list(to(0))}),
		arm(3, api.Stmt{Kind: api.StCase, Cost: 1, E: e(2), Arms: []api.Arm{{Labels: []int{0, 2}, Body: list(to(4))}, {Labels: []int{1}, Body: list(to(0))}, {Labels: []int{3}, Body: list(to(1))}}, Else: list(to(0))}),
		arm(4, put, api.Stmt{Kind: api.StReturn, Cost: 7}), arm(5, api.Stmt{Kind: api.StCase, E: e(2), Else: list(to(4))}),
	}})})
	if got := Make(l, 5); !stmt.Same(got, want) {
		t.Error(got)
	}
	if len(l[0].Body) != 1 {
		t.Error("changed")
	}
}

func TestNone(t *testing.T) {
	end := api.Lifted{End: api.OpRet}
	fits := make([]api.Lifted, 256)
	for i := range fits {
		fits[i] = end
	}
	wide := api.Lifted{End: api.OpSwitch, Next: make([]int, 256)}
	if len(Make(nil, 0)) != 0 || len(Make(fits, 0)) == 0 || len(Make(append(fits, end), 0)) != 0 || len(Make([]api.Lifted{wide}, 0)) == 0 {
		t.Error("how many")
	}
	for i, b := range []api.Lifted{{}, {End: api.OpJump}, {End: api.OpJump, Next: []int{0, 0}}, {End: api.OpJump, Next: []int{1}}, {End: api.OpFalse, Next: []int{0}}, {End: api.OpFalse, Next: []int{0, -1}}, {End: api.OpSwitch}, {End: api.OpSwitch, Next: make([]int, 257)}, {End: api.OpRet, Next: []int{0}}} {
		if len(Make([]api.Lifted{b}, 0)) != 0 {
			t.Error(i)
		}
	}
}

func TestMeaning(t *testing.T) {
	for seed := range 800 {
		p := sample.Prog(seed)
		s := api.Source{Vars: p.Vars, Blocks: p.Blocks}
		for u, x := range p.Units {
			l, temps, _ := lift.Unit(p, u)
			f := api.Func{Name: x.Name, Params: x.Params, Result: x.Result, Locals: append(append(append([]int{}, x.Locals...), temps...), api.Int)}
			f.Body = Make(l, len(lift.Scope(p, u, temps).Slots))
			s.Funcs = append(s.Funcs, f)
		}
		m, _ := vm.New(p)
		x, errno := eval.New(s)
		if errno != api.OK {
			t.Fatal("right", seed, errno)
		}
		now := m.Start()
		d := sample.New(seed)
		for range 3 {
			in := d.Inputs()
			a, _, used1, _ := m.Scan(now, in, 7, 300)
			b, _, used2, _ := x.Scan(now, in, 7, 300)
			if (a.Fault == 0) != (b.Fault == 0) || used1 != used2 || a.Fault == 0 && !state.Same(a, b) {
				t.Fatal("meaning", seed)
			}
			now = a
			now.Fault = 0
		}
	}
}
