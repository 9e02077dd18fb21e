package nnf

import (
	"testing"

	"ladderback/api"
	"ladderback/calc"
	"ladderback/expr"
	"ladderback/sample"
)

var scope = api.Scope{Vars: []api.Var{{T: api.Bool, N: 1}, {T: api.Int, N: 1}, {T: api.Bool, N: 2}}, Blocks: []api.Block{{Kind: api.Ton}}, Slots: []int{api.Bool, api.Bool, api.Bool, api.Int}}

func slot(n int) api.Expr        { return api.Expr{Op: api.ExSlot, N: n} }
func yes(v int) api.Expr         { return api.Expr{Op: api.ExConst, T: api.Bool, N: v} }
func neg(e api.Expr) api.Expr    { return api.Expr{Op: api.ExUn, M: api.OpNot, L: []api.Expr{e}} }
func and(a, b api.Expr) api.Expr { return bin(api.OpAnd, a, b) }
func or(a, b api.Expr) api.Expr  { return bin(api.OpOr, a, b) }

func truth(d *sample.Dice, depth int) api.Expr {
	if depth == 0 || d.N(5) == 0 {
		return []api.Expr{slot(0), slot(1), slot(2), yes(0), yes(1), {Op: api.ExVar}, {Op: api.ExField, M: 2}}[d.N(7)]
	}
	if d.N(3) == 0 {
		return neg(truth(d, depth-1))
	}
	return bin(d.Of(api.OpAnd, api.OpOr, api.OpAnd, api.OpOr, api.OpXor, api.OpEq, api.OpNe), truth(d, depth-1), truth(d, depth-1))
}

func TestLeaf(t *testing.T) {
	for _, e := range []api.Expr{slot(0), yes(0), yes(1), {Op: api.ExVar}, {Op: api.ExField, M: 2}, {Op: api.ExField}} {
		if !Leaf(scope, e) || !Is(scope, e) || Count(scope, e) != 1 {
			t.Error(e)
		}
	}
	item := api.Expr{Op: api.ExItem, N: 2, L: []api.Expr{{Op: api.ExConst, T: api.Int}}}
	for _, e := range []api.Expr{{}, slot(3), slot(9), yes(2), {Op: api.ExVar, N: 1}, {Op: api.ExVar, N: 2}, {Op: api.ExField, M: 1}, item, {Op: api.ExSlot, M: 1}, {Op: api.ExSlot, L: []api.Expr{slot(0)}}, bin(api.OpEq, slot(3), slot(3)), {Op: api.ExConv, T: api.Bool, L: []api.Expr{slot(0)}}, bin(api.OpLt, slot(3), slot(3))} {
		if Leaf(scope, e) || Is(scope, e) || Count(scope, e) != 25 || Count(scope, neg(e)) != 25 || Count(scope, and(slot(0), e)) != 25 {
			t.Error(e)
		}
		if x, ok := Norm(scope, or(e, slot(0))); ok || !expr.Same(x, api.Expr{}) {
			t.Error("norm", e)
		}
	}
	if Leaf(scope, neg(slot(0))) || !Is(scope, neg(slot(0))) || Is(scope, neg(yes(1))) || Is(scope, neg(neg(slot(0)))) || Is(scope, bin(api.OpXor, slot(0), slot(1))) || !Is(scope, or(and(slot(0), neg(slot(1))), slot(2))) || Is(scope, neg(and(slot(0), slot(1)))) {
		t.Error("is")
	}
	odd := and(slot(0), slot(1))
	odd.N = 1
	if Is(scope, odd) || Count(scope, odd) != 25 {
		t.Error("not whole")
	}
}

func TestNorm(t *testing.T) {
	a, b := slot(0), slot(1)
	rows := [][2]api.Expr{
		{neg(and(a, b)), or(neg(a), neg(b))}, {neg(or(a, b)), and(neg(a), neg(b))}, {neg(neg(a)), a}, {neg(yes(1)), yes(0)}, {yes(1), yes(1)},
		{bin(api.OpXor, a, b), or(and(a, neg(b)), and(neg(a), b))}, {bin(api.OpNe, a, b), or(and(a, neg(b)), and(neg(a), b))}, {neg(bin(api.OpEq, a, b)), or(and(a, neg(b)), and(neg(a), b))},
		{bin(api.OpEq, a, b), or(and(a, b), and(neg(a), neg(b)))}, {neg(bin(api.OpXor, a, b)), or(and(a, b), and(neg(a), neg(b)))}, {neg(bin(api.OpNe, a, b)), or(and(a, b), and(neg(a), neg(b)))},
	}
	for i, r := range rows {
		if got, ok := Norm(scope, r[0]); !ok || !expr.Same(got, r[1]) {
			t.Error(i, got)
		}
	}
	wide := a
	for range api.MaxContacts - 1 {
		wide = or(wide, b)
	}
	if _, ok := Norm(scope, wide); !ok || Count(scope, wide) != api.MaxContacts {
		t.Error("as many as may be")
	}
	if _, ok := Norm(scope, or(wide, a)); ok || Count(scope, or(wide, a)) != api.MaxContacts+1 {
		t.Error("one more")
	}
	deep := a
	for range 1 << 16 {
		deep = bin(api.OpXor, deep, b)
	}
	if Count(scope, deep) != 25 {
		t.Error("deep")
	}
}

func literals(e api.Expr) int {
	if e.Op == api.ExBin {
		return literals(e.L[0]) + literals(e.L[1])
	}
	return 1
}

func TestTruths(t *testing.T) {
	done := 0
	for seed := range 3000 {
		e := truth(sample.New(seed), 4)
		x, ok := Norm(scope, e)
		if Count(scope, e) != Count(scope, neg(e)) || ok != (Count(scope, e) <= api.MaxContacts) {
			t.Fatal("count", seed)
		}
		if !ok {
			continue
		}
		done++
		if again, ok := Norm(scope, x); !Is(scope, x) || !ok || !expr.Same(again, x) || literals(x) != Count(scope, e) {
			t.Fatal("form", seed)
		}
		for v := range 32 {
			st := api.State{Vars: [][]int{{v & 1}, {0}, {0, 0}}, Blocks: make([]api.Inst, 1)}
			st.Blocks[0].F[2] = v >> 1 & 1
			slots := []int{v >> 2 & 1, v >> 3 & 1, v >> 4 & 1, 0}
			a, _ := calc.Eval(scope, st, slots, e)
			b, _ := calc.Eval(scope, st, slots, x)
			if a != b {
				t.Fatal("value", seed, v)
			}
		}
	}
	if done < 1000 {
		t.Error("few", done)
	}
}
