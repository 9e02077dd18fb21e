package calc

import (
	"slices"
	"testing"

	"ladderback/api"
	"ladderback/expr"
	"ladderback/kind"
)

func c(t, v int) api.Expr                { return api.Expr{Op: api.ExConst, T: t, N: v} }
func slot(n int) api.Expr                { return api.Expr{Op: api.ExSlot, N: n} }
func vari(n int) api.Expr                { return api.Expr{Op: api.ExVar, N: n} }
func field(n, m int) api.Expr            { return api.Expr{Op: api.ExField, N: n, M: m} }
func item(n int, l ...api.Expr) api.Expr { return api.Expr{Op: api.ExItem, N: n, L: l} }
func un(m int, l ...api.Expr) api.Expr   { return api.Expr{Op: api.ExUn, M: m, L: l} }
func bin(m int, l ...api.Expr) api.Expr  { return api.Expr{Op: api.ExBin, M: m, L: l} }
func conv(t int, l ...api.Expr) api.Expr { return api.Expr{Op: api.ExConv, T: t, L: l} }

var scope = api.Scope{Vars: []api.Var{{T: api.Word, N: 1}, {T: api.Dint, N: 2}}, Blocks: []api.Block{{Kind: api.Ctu}}, Slots: []int{api.Int, api.Bool}}

func start() api.State {
	s := api.State{Vars: [][]int{{65535}, {-3, 8}}, Blocks: make([]api.Inst, 1)}
	s.Blocks[0].F[4], s.Blocks[0].F[0] = 70000, 5
	return s
}

var slots = []int{7, 1}

var rows = []struct {
	e        api.Expr
	v, fault int
}{
	{c(api.Int, -5), -5, 0}, {vari(0), 65535, 0}, {slot(0), 7, 0}, {item(1, c(api.Int, 1)), 8, 0}, {field(0, 4), 4464, 0}, {field(0, 0), 1, 0},
	{item(1, c(api.Int, 2)), 0, api.FaultIndex}, {item(1, c(api.Int, -1)), 0, api.FaultIndex},
	{un(api.OpNeg, slot(0)), -7, 0}, {un(api.OpNot, vari(0)), 0, 0}, {un(api.OpNot, slot(1)), 0, 0},
	{bin(api.OpSub, slot(0), c(api.Int, 9)), -2, 0}, {bin(api.OpLt, slot(0), c(api.Int, 9)), 1, 0}, {bin(api.OpShl, vari(0), c(api.Int, 8)), 65280, 0},
	{bin(api.OpDiv, slot(0), c(api.Int, 0)), 0, api.FaultZero}, {conv(api.Int, vari(0)), -1, 0}, {conv(api.Bool, slot(0)), 1, 0},
	{bin(api.OpAdd, conv(api.Dint, bin(api.OpDiv, slot(0), c(api.Int, 0))), item(1, c(api.Int, 9))), 0, api.FaultZero},
	{bin(api.OpAdd, item(1, c(api.Int, 9)), conv(api.Dint, bin(api.OpDiv, slot(0), c(api.Int, 0)))), 0, api.FaultIndex},
	{item(1, bin(api.OpMod, slot(0), c(api.Int, 0))), 0, api.FaultZero},
	{bin(api.OpDiv, item(1, c(api.Int, 0)), c(api.Dint, 2)), -1, 0},
}

func TestEval(t *testing.T) {
	for i, r := range rows {
		v, fault := Eval(scope, start(), slots, r.e)
		if v != r.v || fault != r.fault {
			t.Error(i, v, fault)
		}
		ty := expr.Type(scope, r.e)
		if ty == 0 || fault == 0 && !kind.In(ty, v) || !expr.May(r.e) && fault != 0 {
			t.Error("type", i, ty)
		}
		other := start()
		other.Now, other.Fault = 99, 2
		other.Blocks[0].F[8] = 4
		if v, fault := Eval(scope, other, append(slots, 9), r.e); v != r.v || fault != r.fault {
			t.Error("hangs on something else", i)
		}
	}
}

func TestAll(t *testing.T) {
	if l, fault := All(scope, start(), slots, []api.Expr{slot(0), slot(1), c(api.Int, 3)}); !slices.Equal(l, []int{7, 1, 3}) || fault != 0 {
		t.Error(l, fault)
	}
	if l, fault := All(scope, start(), slots, []api.Expr{slot(0), rows[6].e, rows[14].e}); len(l) > 0 || fault != api.FaultIndex {
		t.Error(l, fault)
	}
	if l, fault := All(scope, start(), slots, nil); len(l) > 0 || fault != 0 {
		t.Error("none")
	}
}

func TestWrongOnesEnd(t *testing.T) {
	wrong := []api.Expr{{}, {Op: 99, L: []api.Expr{slot(0)}}, vari(9), vari(-1), slot(5), slot(-1), field(9, 0), field(-1, 0), field(0, 99), item(1), item(9, slot(0)), un(api.OpNeg), un(99, slot(0)), bin(api.OpAdd), bin(api.OpAdd, slot(0)), bin(api.OpAdd, slot(0), slot(0), slot(0)), bin(api.OpAdd, slot(0), vari(0)), conv(0, slot(0)), conv(1)}
	for _, e := range wrong {
		Eval(scope, start(), slots, e)
		Eval(api.Scope{}, api.State{}, nil, e)
	}
	for _, r := range rows {
		Eval(api.Scope{}, api.State{}, nil, r.e)
		Eval(scope, api.State{}, nil, r.e)
		Eval(api.Scope{}, start(), slots, r.e)
	}
}
