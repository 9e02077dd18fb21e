package deep

import (
	"reflect"
	"testing"

	"ladderback/api"
)

func some() api.Source {
	e := api.Expr{Op: 7, M: 8, L: []api.Expr{{Op: 1, T: 2, N: 5}, {Op: 6, L: []api.Expr{{Op: 2}}}}}
	x := api.Stmt{Kind: 11, E: e, I: e, L: []api.Expr{e}, Args: []api.Arg{{Field: 1, E: e}}, Body: []api.Stmt{{E: e}}, Else: []api.Stmt{{I: e}}, Arms: []api.Arm{{Labels: []int{1}, Body: []api.Stmt{{E: e}}}}}
	return api.Source{Vars: []api.Var{{N: 1}}, Blocks: []api.Block{{Kind: 1}}, Funcs: []api.Func{{Params: []int{1}, Locals: []int{2}, Body: []api.Stmt{x}}}}
}

func TestSource(t *testing.T) {
	s := some()
	c := Source(s)
	if !reflect.DeepEqual(s, c) {
		t.Error("same")
	}
	c.Vars[0].N, c.Blocks[0].Kind, c.Funcs[0].Params[0], c.Funcs[0].Locals[0] = 9, 9, 9, 9
	x := &c.Funcs[0].Body[0]
	x.E.L[1].L[0].N, x.I.L[0].N, x.L[0].L[0].N, x.Args[0].E.L[0].N = 9, 9, 9, 9
	x.Body[0].E.L[0].N, x.Else[0].I.L[0].N, x.Arms[0].Labels[0], x.Arms[0].Body[0].E.L[0].N = 9, 9, 9, 9
	if !reflect.DeepEqual(s, some()) {
		t.Error("shared")
	}
}
