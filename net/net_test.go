package net

import (
	"testing"

	"ladderback/api"
	"ladderback/calc"
	"ladderback/expr"
	"ladderback/nnf"
	"ladderback/sample"
)

var scope = api.Scope{Slots: []int{api.Bool, api.Bool, api.Bool, api.Int}}

func slot(n int) api.Expr               { return api.Expr{Op: api.ExSlot, N: n} }
func yes(v int) api.Expr                { return api.Expr{Op: api.ExConst, T: api.Bool, N: v} }
func not(e api.Expr) api.Expr           { return api.Expr{Op: api.ExUn, M: api.OpNot, L: []api.Expr{e}} }
func bin(m int, l ...api.Expr) api.Expr { return api.Expr{Op: api.ExBin, M: m, L: l} }
func and(a, b api.Expr) api.Expr        { return bin(api.OpAnd, a, b) }
func or(a, b api.Expr) api.Expr         { return bin(api.OpOr, a, b) }
func on(n int) api.Net                  { return api.Net{Kind: Contact, E: slot(n)} }
func off(n int) api.Net                 { return api.Net{Kind: Contact, Neg: 1, E: slot(n)} }
func row(l ...api.Net) api.Net          { return api.Net{Kind: Series, L: l} }
func branch(l ...api.Net) api.Net       { return api.Net{Kind: Branch, L: l} }

func truth(d *sample.Dice, depth int) api.Expr {
	if depth == 0 || d.N(5) == 0 {
		return []api.Expr{slot(0), slot(1), slot(2), yes(0), yes(1)}[d.N(5)]
	}
	if d.N(3) == 0 {
		return not(truth(d, depth-1))
	}
	return bin(d.Of(api.OpAnd, api.OpOr, api.OpAnd, api.OpOr, api.OpXor, api.OpEq), truth(d, depth-1), truth(d, depth-1))
}

func TestFrom(t *testing.T) {
	a, b, c := slot(0), slot(1), slot(2)
	rows := []struct {
		e     api.Expr
		n     api.Net
		canon api.Expr
	}{
		{a, on(0), a}, {not(a), off(0), not(a)}, {yes(1), api.Net{Kind: Contact, E: yes(1)}, yes(1)}, {not(yes(1)), api.Net{Kind: Contact, E: yes(0)}, yes(0)},
		{and(a, and(b, not(c))), row(on(0), on(1), off(2)), and(and(a, b), not(c))},
		{or(or(a, b), or(c, a)), branch(on(0), on(1), on(2), on(0)), or(or(or(a, b), c), a)},
		{and(or(a, b), not(or(b, c))), row(branch(on(0), on(1)), off(1), off(2)), and(and(or(a, b), not(b)), not(c))},
		{bin(api.OpXor, a, b), branch(row(on(0), off(1)), row(off(0), on(1))), or(and(a, not(b)), and(not(a), b))},
	}
	for i, r := range rows {
		n, ok := From(scope, r.e)
		if !ok || !Same(n, r.n) || !Right(scope, n) {
			t.Error(i, n)
		}
		if e, ok := Canon(scope, r.e); !ok || !expr.Same(e, r.canon) || !expr.Same(Expr(n), e) {
			t.Error("canon", i, e)
		}
	}
	for i, e := range []api.Expr{{}, slot(3), slot(9), bin(api.OpLt, slot(3), slot(3))} {
		n, ok := From(scope, e)
		x, fine := Canon(scope, e)
		if ok || fine || !Same(n, api.Net{}) || !expr.Same(x, api.Expr{}) {
			t.Error("none", i)
		}
	}
}

func TestRight(t *testing.T) {
	fine := []api.Net{on(0), off(1), {Kind: Contact, E: yes(1)}, row(on(0), on(1)), branch(row(on(0), on(0)), off(0), row(on(1), branch(on(1), on(2))))}
	wrong := []api.Net{{}, {Kind: 4}, on(3), on(9), {Kind: Contact, Neg: 1, E: yes(1)}, {Kind: Contact, Neg: 2, E: slot(0)}, {Kind: Contact, Neg: -1, E: slot(0)}, {Kind: Contact, E: slot(0), L: []api.Net{on(0)}}, row(), row(on(0)), row(on(0), row(on(1), on(2))), branch(on(0), branch(on(1), on(2))), row(on(0), on(3)), {Kind: Series, Neg: 1, L: []api.Net{on(0), on(0)}}, {Kind: Series, E: slot(0), L: []api.Net{on(0), on(0)}}}
	for i, n := range fine {
		if !Right(scope, n) {
			t.Error("fine", i)
		}
	}
	for i, n := range wrong {
		if Right(scope, n) {
			t.Error("wrong", i)
		}
		Expr(n)
	}
	for i, a := range append(fine, wrong...) {
		for k, b := range append(fine, wrong...) {
			if Same(a, b) != (i == k) {
				t.Error("same", i, k)
			}
		}
	}
	if Contacts(fine[4]) != 6 || Contacts(on(0)) != 1 || Contacts(row()) != 0 || !Same(row(), api.Net{Kind: Series, L: []api.Net{}}) {
		t.Error("contacts")
	}
}

func TestTruths(t *testing.T) {
	for seed := range 3000 {
		e := truth(sample.New(seed), 4)
		n, ok := From(scope, e)
		if !ok {
			continue
		}
		x := Expr(n)
		back, _ := From(scope, x)
		again, _ := Canon(scope, x)
		if !Right(scope, n) || !Same(back, n) || !expr.Same(again, x) || Contacts(n) != nnf.Count(scope, e) || !nnf.Is(scope, x) {
			t.Fatal(seed)
		}
		for v := range 8 {
			slots := []int{v & 1, v >> 1 & 1, v >> 2 & 1, 0}
			a, _ := calc.Eval(scope, api.State{}, slots, e)
			b, _ := calc.Eval(scope, api.State{}, slots, x)
			if a != b {
				t.Fatal("value", seed, v)
			}
		}
	}
}
