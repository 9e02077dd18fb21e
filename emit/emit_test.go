package emit

import (
	"reflect"
	"slices"
	"strings"
	"testing"

	"ladderback/api"
	"ladderback/eval"
	"ladderback/op"
	"ladderback/sample"
	"ladderback/stmt"
)

func TestConst(t *testing.T) {
	pool := make([]api.Const, 0, 9)
	pool = append(pool, api.Const{T: 2, V: 5}, api.Const{T: 2, V: 5}, api.Const{T: 1, V: 1})
	if got, n := Const(pool, api.Const{T: 2, V: 5}); n != 0 || len(got) != 3 {
		t.Error(got, n)
	}
	got, n := Const(pool, api.Const{T: 3, V: 5})
	if n != 3 || len(got) != 4 || got[3] != (api.Const{T: 3, V: 5}) || pool[:4][3] != (api.Const{}) {
		t.Error(got, n)
	}
	got[0].V = 9
	if pool[0].V != 5 {
		t.Error("shared")
	}
	if got, n := Const(nil, api.Const{}); n != 0 || len(got) != 1 {
		t.Error("empty")
	}
}

func c(v int) api.Expr    { return api.Expr{Op: api.ExConst, T: api.Int, N: v} }
func vari(n int) api.Expr { return api.Expr{Op: api.ExVar, N: n} }
func slot(n int) api.Expr { return api.Expr{Op: api.ExSlot, N: n} }
func node(op, m, t, n int, l ...api.Expr) api.Expr {
	return api.Expr{Op: op, M: m, T: t, N: n, L: l}
}

// lines tells code as lines with blanks between.
func lines(l []api.Instr) string {
	var out []string
	for _, i := range l {
		out = append(out, op.Line(i))
	}
	return strings.Join(out, ", ")
}

var scope = api.Scope{
	Vars:   []api.Var{{T: api.Int, N: 1}, {T: api.Word, N: 3}, {T: api.Bool, N: 1}},
	Blocks: []api.Block{{Kind: api.Ctu}},
	Sigs:   []api.Sig{{}, {Params: []int{api.Int}, Result: api.Int}, {}},
	Slots:  []int{api.Bool, api.Int},
}

func TestExpr(t *testing.T) {
	rows := []struct {
		e    api.Expr
		want string
	}{
		{c(7), "const 1"}, {c(8), "const 2"}, {vari(0), "load 0"}, {slot(1), "get 1"}, {node(api.ExField, 4, 0, 0), "out 0 4"},
		{node(api.ExItem, 0, 0, 1, slot(1)), "get 1, item 1"}, {node(api.ExUn, api.OpNeg, 0, 0, vari(0)), "load 0, neg 2"},
		{node(api.ExBin, api.OpLt, 0, 0, c(5), slot(1)), "const 0, get 1, lt 2"},
		{node(api.ExUn, api.OpNot, 0, 0, node(api.ExBin, api.OpLt, 0, 0, c(5), slot(1))), "const 0, get 1, lt 2, not 1"},
		{node(api.ExBin, api.OpShl, 0, 0, node(api.ExItem, 0, 0, 1, c(5)), c(7)), "const 0, item 1, const 1, shl 4"},
		{node(api.ExConv, 0, api.Time, 0, node(api.ExConv, 0, api.Dint, 0, node(api.ExField, 4, 0, 0))), "out 0 4, conv 2 3, conv 3 6"},
	}
	pool := []api.Const{{T: 2, V: 5}, {T: 2, V: 7}}
	for i, r := range rows {
		code, got := Expr(scope, pool, r.e)
		if lines(code) != r.want {
			t.Error(i, lines(code))
		}
		if len(got) < 2 || !slices.Equal(got[:2], pool) {
			t.Error("pool", i, got)
		}
	}
}

func list(l ...api.Stmt) []api.Stmt { return l }

var exit, next, back, skip = api.Stmt{Kind: api.StExit, Cost: 3}, api.Stmt{Kind: api.StNext}, api.Stmt{Kind: api.StReturn}, api.Stmt{Cost: 4}

func when(body, other []api.Stmt) api.Stmt {
	return api.Stmt{Kind: api.StIf, Cost: 9, E: slot(0), Body: body, Else: other}
}

func TestStatements(t *testing.T) {
	put := api.Stmt{Kind: api.StVar, E: c(1)}
	rows := []struct {
		l    []api.Stmt
		want string
	}{
		{nil, "ret"}, {list(skip), "ret"}, {list(put), "const 0, store 0, ret"}, {list(api.Stmt{Kind: api.StSlot, N: 1, E: c(1)}), "const 0, put 1, ret"},
		{list(api.Stmt{Kind: api.StItem, N: 1, I: c(1), E: node(api.ExConv, 0, api.Word, 0, c(2))}), "const 0, const 1, conv 2 4, keep 1, ret"},
		{list(api.Stmt{Kind: api.StField, M: 2, E: c(1)}), "const 0, set 0 2, ret"}, {list(api.Stmt{Kind: api.StBlock}), "run 0, ret"},
		{list(api.Stmt{Kind: api.StBlock, Args: []api.Arg{{Field: 2, E: c(1)}, {Field: 0, E: slot(0)}}}), "const 0, set 0 2, get 0, set 0 0, run 0, ret"},
		{list(api.Stmt{Kind: api.StCall, N: 1, M: 1, L: []api.Expr{c(1)}}), "const 0, call 1, put 1, ret"}, {list(api.Stmt{Kind: api.StCall, N: 1, M: -1, L: []api.Expr{c(1)}}), "const 0, call 1, pop, ret"}, {list(api.Stmt{Kind: api.StCall, N: 2, M: -1}), "call 2, ret"},
		{list(when(list(back), nil)), "get 0, false 3 5, ret, ret"}, {list(when(list(back), list(skip))), "get 0, false 3 5, ret, ret"}, {list(when(nil, nil)), "get 0, false 2 5, ret"},
		{list(when(list(put), list(back))), "get 0, false 5 6, const 0, store 0, jump 6 1, ret, ret"}, {list(when(nil, list(skip, back))), "get 0, false 3 6, jump 4 1, ret, ret"},
		{list(put, api.Stmt{Kind: api.StWhile, E: slot(0), Body: list(exit, next)}), "const 0, store 0, nop 8 12, get 0, false 8 7, jump 8 3, jump 2 4, jump 2 2, ret"},
		{list(api.Stmt{Kind: api.StLoop, Body: list(exit, next)}), "nop 4 10, jump 4 3, jump 0 4, jump 0 2, ret"},
		{list(api.Stmt{Kind: api.StRepeat, E: slot(0), Body: list(exit)}), "nop 4 11, jump 4 3, get 0, false 0 8, ret"},
		{list(api.Stmt{Kind: api.StLoop, Body: list(api.Stmt{Kind: api.StRepeat, E: slot(0), Body: list(exit)}, exit)}), "nop 7 10, nop 5 11, jump 5 3, get 0, false 1 8, jump 7 3, jump 0 2, ret"},
		{list(api.Stmt{Kind: api.StCase, E: slot(1)}), "get 1, switch 0 3, jump 3 1, ret"},
		{list(api.Stmt{Kind: api.StCase, E: slot(1), Arms: []api.Arm{{Labels: []int{2}, Body: list(back)}, {Labels: []int{0, 3}}}, Else: list(put)}), "get 1, switch 4 12, jump 11 9, jump 6 9, jump 9 9, jump 11 9, const 0, store 0, jump 12 1, ret, jump 12 1, jump 12 1, ret"},
	}
	for i, r := range rows {
		code, _ := Unit(scope, nil, r.l)
		if lines(code) != r.want {
			t.Error(i, lines(code))
		}
		if Size(r.l, scope) != len(code)-1 {
			t.Error("size", i)
		}
		if bare, _ := Unit(scope, nil, stmt.Erase(r.l)); !reflect.DeepEqual(bare, code) {
			t.Error("costs play no part", i)
		}
	}
}

func TestPool(t *testing.T) {
	for seed := range 300 {
		s := sample.Source(seed)
		var pool []api.Const
		for i, f := range s.Funcs {
			sc := eval.Scope(s, i)
			code, more := Unit(sc, pool, f.Body)
			again, same := Unit(sc, more, f.Body)
			if !slices.Equal(more[:len(pool)], pool) || !slices.Equal(same, more) || !slices.Equal(code, again) && i == 0 {
				t.Fatal(seed, i)
			}
			pool = more
		}
	}
}

func TestWrongOnesEnd(t *testing.T) {
	for _, x := range []api.Stmt{{Kind: 99}, exit, next, {Kind: api.StVar}, {Kind: api.StCall, N: 9, M: -1}, {Kind: api.StCall, N: -9, M: -1}, {Kind: api.StCase, Arms: []api.Arm{{Labels: []int{-5, 1 << 60}}, {}}}, {Kind: api.StVar, E: node(77, 0, 0, 0, c(1))}, {Kind: api.StVar, E: node(api.ExItem, 0, 0, 99)}, {Kind: api.StVar, E: node(api.ExBin, 99, 0, 0)}, {Kind: api.StWhile}, {Kind: api.StRepeat, Body: list(next)}} {
		Unit(scope, nil, list(x))
		Unit(api.Scope{}, nil, list(x))
		Size(list(x), api.Scope{})
	}
	deep := c(1)
	for range 1 << 16 {
		deep = node(api.ExUn, api.OpNeg, 0, 0, deep)
	}
	if code, _ := Expr(scope, nil, deep); len(code) != 1<<16+1 || code[1<<16].A != api.Int {
		t.Error("deep")
	}
}
