package power

import (
	"reflect"
	"slices"
	"testing"

	"ladderback/api"
	"ladderback/calc"
	"ladderback/net"
	"ladderback/sample"
)

var scope = api.Scope{Slots: []int{api.Bool, api.Bool, api.Bool}}

func slot(n int) api.Expr               { return api.Expr{Op: api.ExSlot, N: n} }
func yes(v int) api.Expr                { return api.Expr{Op: api.ExConst, T: api.Bool, N: v} }
func not(e api.Expr) api.Expr           { return api.Expr{Op: api.ExUn, M: api.OpNot, L: []api.Expr{e}} }
func bin(m int, l ...api.Expr) api.Expr { return api.Expr{Op: api.ExBin, M: m, L: l} }
func on(n int) api.Net                  { return api.Net{Kind: net.Contact, E: slot(n)} }
func off(n int) api.Net                 { return api.Net{Kind: net.Contact, Neg: 1, E: slot(n)} }
func row(l ...api.Net) api.Net          { return api.Net{Kind: net.Series, L: l} }
func branch(l ...api.Net) api.Net       { return api.Net{Kind: net.Branch, L: l} }
func wire(a, b int) api.Wire            { return api.Wire{From: a, To: b} }

func truth(d *sample.Dice, depth int) api.Expr {
	if depth == 0 || d.N(5) == 0 {
		return []api.Expr{slot(0), slot(1), slot(2), yes(0), yes(1)}[d.N(5)]
	}
	if d.N(3) == 0 {
		return not(truth(d, depth-1))
	}
	return bin(d.Of(api.OpAnd, api.OpOr, api.OpAnd, api.OpOr, api.OpXor, api.OpEq), truth(d, depth-1), truth(d, depth-1))
}

func TestWires(t *testing.T) {
	w := func(a, b, neg, n int) api.Wire { return api.Wire{From: a, To: b, Neg: neg, E: slot(n)} }
	rows := []struct {
		n    api.Net
		want []api.Wire
	}{
		{on(2), []api.Wire{w(0, 1, 0, 2)}}, {row(on(0), off(1)), []api.Wire{w(0, 2, 0, 0), w(2, 1, 1, 1)}}, {row(on(0), on(1), on(2)), []api.Wire{w(0, 2, 0, 0), w(2, 3, 0, 1), w(3, 1, 0, 2)}},
		{branch(on(0), off(1)), []api.Wire{w(0, 1, 0, 0), w(0, 1, 1, 1)}},
		{row(branch(row(on(0), on(1)), on(2)), branch(on(0), row(on(1), on(2)))), []api.Wire{w(0, 3, 0, 0), w(3, 2, 0, 1), w(0, 2, 0, 2), w(2, 1, 0, 0), w(2, 4, 0, 1), w(4, 1, 0, 2)}},
	}
	for i, r := range rows {
		if got := Wires(r.n); !reflect.DeepEqual(got, r.want) || !Reduces(got) {
			t.Error(i, got)
		}
	}
	for _, n := range []api.Net{{}, row(), branch(), row(on(0)), {Kind: 9, L: []api.Net{on(0)}}} {
		Wires(n)
	}
}

func TestClosedAndFlows(t *testing.T) {
	l := []api.Wire{{E: slot(0)}, {Neg: 1, E: slot(0)}, {E: slot(1)}, {Neg: 1, E: slot(1)}, {E: yes(1)}}
	if got := Closed(scope, api.State{}, []int{1, 0, 0}, l); !slices.Equal(got, []bool{true, false, false, true, true}) {
		t.Error(got)
	}
	bad := bin(api.OpEq, bin(api.OpDiv, api.Expr{Op: api.ExConst, T: api.Int, N: 1}, api.Expr{Op: api.ExConst, T: api.Int}), api.Expr{Op: api.ExConst, T: api.Int})
	if Closed(scope, api.State{}, nil, []api.Wire{{Neg: 1, E: bad}})[0] {
		t.Error("a fault closes nothing")
	}
	ways := []api.Wire{wire(2, 0), wire(2, 3), wire(1, 3), wire(0, 1), wire(5, 5)}
	rows := []struct {
		closed []bool
		want   bool
	}{{nil, false}, {[]bool{true, true, true}, true}, {[]bool{true, true}, false}, {[]bool{false, true, true}, false}, {[]bool{false, false, false, true, true, true, true}, true}}
	for i, r := range rows {
		if Flows(ways, r.closed) != r.want {
			t.Error(i)
		}
	}
	if Flows(nil, []bool{true}) {
		t.Error("no wires")
	}
}

func TestReduces(t *testing.T) {
	rows := []struct {
		l    []api.Wire
		want bool
	}{
		{nil, false}, {[]api.Wire{wire(0, 1)}, true}, {[]api.Wire{wire(1, 0)}, true}, {[]api.Wire{wire(0, 2)}, false}, {[]api.Wire{wire(0, 1), wire(2, 3)}, false}, {[]api.Wire{wire(0, 1), wire(1, 0), wire(0, 1)}, true},
		{[]api.Wire{wire(0, 1), wire(5, 5)}, false}, {[]api.Wire{wire(0, 0)}, false}, {[]api.Wire{wire(0, 2), wire(1, 2)}, true}, {[]api.Wire{wire(0, 2), wire(2, 1), wire(2, 3)}, false},
		{[]api.Wire{wire(0, 2), wire(2, 3), wire(3, 2), wire(2, 1)}, false}, {[]api.Wire{wire(0, 2), wire(0, 3), wire(2, 3), wire(2, 1), wire(3, 1)}, false},
		{[]api.Wire{wire(0, -7), wire(-7, 1<<62), wire(1<<62, 1)}, true}, {[]api.Wire{wire(2, 3), wire(3, 4), wire(4, 2)}, false}, {[]api.Wire{wire(0, 2), wire(0, 2), wire(2, 1), wire(0, 1)}, true},
	}
	for i, r := range rows {
		if Reduces(r.l) != r.want {
			t.Error(i)
		}
		turned := slices.Clone(r.l)
		slices.Reverse(turned)
		if Reduces(turned) != r.want {
			t.Error("order", i)
		}
	}
}

func TestNetworks(t *testing.T) {
	for seed := range 2000 {
		e := truth(sample.New(seed), 4)
		n, ok := net.From(scope, e)
		if !ok {
			continue
		}
		l := Wires(n)
		if len(l) != net.Contacts(n) || !Reduces(l) {
			t.Fatal("wires", seed)
		}
		for v := range 8 {
			slots := []int{v & 1, v >> 1 & 1, v >> 2 & 1}
			want, _ := calc.Eval(scope, api.State{}, slots, e)
			if Flows(l, Closed(scope, api.State{}, slots, l)) != (want == 1) {
				t.Fatal("power", seed, v)
			}
		}
	}
}
