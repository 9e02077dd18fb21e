package expr

import (
	"testing"

	"ladderback/api"
)

const least, most = -1 << 63, 1<<63 - 1

func scope() api.Scope {
	return api.Scope{
		Vars:   []api.Var{{T: api.Word, N: 1}, {T: api.Dint, N: 2}, {T: 9, N: 1}, {T: api.Int, N: 0}, {T: 0, N: 5}},
		Blocks: []api.Block{{Kind: api.Ctu}, {Kind: 77}},
		Slots:  []int{api.Bool, 0, api.Time},
	}
}

func c(t, v int) api.Expr                { return api.Expr{Op: api.ExConst, T: t, N: v} }
func slot(n int) api.Expr                { return api.Expr{Op: api.ExSlot, N: n} }
func vari(n int) api.Expr                { return api.Expr{Op: api.ExVar, N: n} }
func field(n, m int) api.Expr            { return api.Expr{Op: api.ExField, N: n, M: m} }
func item(n int, l ...api.Expr) api.Expr { return api.Expr{Op: api.ExItem, N: n, L: l} }
func un(m int, l ...api.Expr) api.Expr   { return api.Expr{Op: api.ExUn, M: m, L: l} }
func bin(m int, l ...api.Expr) api.Expr  { return api.Expr{Op: api.ExBin, M: m, L: l} }
func conv(t int, l ...api.Expr) api.Expr { return api.Expr{Op: api.ExConv, T: t, L: l} }

func TestType(t *testing.T) {
	one, yes := c(api.Int, 1), c(api.Bool, 1)
	rows := []struct {
		e    api.Expr
		want int
	}{
		{one, api.Int}, {c(api.Int, 40000), 0}, {c(0, 0), 0}, {c(7, 0), 0}, {api.Expr{Op: api.ExConst, T: api.Int, M: 1}, 0}, {api.Expr{Op: api.ExConst, T: api.Int, L: []api.Expr{one}}, 0},
		{vari(0), api.Word}, {vari(1), 0}, {vari(2), 0}, {vari(3), api.Int}, {vari(5), 0}, {vari(-1), 0}, {vari(most), 0}, {api.Expr{Op: api.ExVar, T: api.Word}, 0}, {api.Expr{Op: api.ExVar, M: 1}, 0}, {api.Expr{Op: api.ExVar, L: []api.Expr{one}}, 0},
		{slot(0), api.Bool}, {slot(1), 0}, {slot(2), api.Time}, {slot(3), 0}, {slot(least), 0}, {api.Expr{Op: api.ExSlot, T: 1}, 0},
		{field(0, 0), api.Bool}, {field(0, 4), api.Int}, {field(0, 5), 0}, {field(1, 0), 0}, {field(2, 0), 0}, {field(0, -1), 0}, {field(-1, 0), 0}, {api.Expr{Op: api.ExField, T: 1}, 0},
		{item(1, one), api.Dint}, {item(0, one), 0}, {item(1, yes), 0}, {item(1), 0}, {item(1, one, one), 0}, {item(4, one), 0}, {item(9, one), 0}, {api.Expr{Op: api.ExItem, N: 1, M: 1, L: []api.Expr{one}}, 0},
		{un(api.OpNeg, one), api.Int}, {un(api.OpNot, one), 0}, {un(api.OpNot, yes), api.Bool}, {un(api.OpAdd, one), 0}, {un(api.OpNeg), 0}, {un(api.OpNeg, one, one), 0}, {api.Expr{Op: api.ExUn, M: api.OpNeg, N: 1, L: []api.Expr{one}}, 0}, {api.Expr{Op: api.ExUn, M: api.OpNeg, T: 2, L: []api.Expr{one}}, 0},
		{bin(api.OpAdd, one, one), api.Int}, {bin(api.OpEq, one, one), api.Bool}, {bin(api.OpAdd, one, yes), 0}, {bin(api.OpShl, vari(0), one), api.Word}, {bin(api.OpShl, vari(0), vari(0)), 0}, {bin(api.OpNeg, one, one), 0}, {bin(api.OpAdd, one), 0}, {bin(api.OpAdd, one, one, one), 0}, {bin(api.OpLt, yes, yes), 0}, {api.Expr{Op: api.ExBin, M: api.OpAdd, T: 2, L: []api.Expr{one, one}}, 0}, {api.Expr{Op: api.ExBin, M: api.OpAdd, N: 2, L: []api.Expr{one, one}}, 0},
		{conv(api.Time, yes), api.Time}, {conv(0, yes), 0}, {conv(7, yes), 0}, {conv(1), 0}, {api.Expr{Op: api.ExConv, T: 1, N: 1, L: []api.Expr{one}}, 0}, {api.Expr{Op: api.ExConv, T: 1, M: 1, L: []api.Expr{one}}, 0},
		{conv(1, slot(1)), 0}, {bin(api.OpEq, slot(1), slot(1)), 0}, {api.Expr{}, 0}, {api.Expr{Op: 9}, 0}, {api.Expr{Op: -1, L: []api.Expr{one}}, 0},
	}
	more := scope()
	more.Vars, more.Blocks, more.Slots = append(more.Vars, api.Var{}), append(more.Blocks, api.Block{}), append(more.Slots, 1)
	for i, r := range rows {
		if got := Type(scope(), r.e); got != r.want {
			t.Error(i, r.e, got)
		}
		if got := Type(more, r.e); r.want != 0 && got != r.want {
			t.Error("more", i)
		}
	}
}

func TestMeasures(t *testing.T) {
	one := c(api.Int, 1)
	e := bin(api.OpAdd, item(1, one), bin(api.OpMul, one, un(api.OpNeg, one)))
	if Size(e) != 7 || Deep(e) != 4 || !May(e) || Size(one) != 1 || Deep(one) != 1 || May(one) {
		t.Error(Size(e), Deep(e))
	}
	if !May(bin(api.OpDiv, one, one)) || !May(conv(1, bin(api.OpMod, one, one))) || May(bin(api.OpAdd, one, one)) || May(un(api.OpDiv, one)) || !May(un(api.OpNeg, item(1, one))) {
		t.Error("may")
	}
}

func TestSame(t *testing.T) {
	one := c(api.Int, 1)
	e := bin(api.OpAdd, one, un(api.OpNeg, one))
	if !Same(e, e) || !Same(api.Expr{L: []api.Expr{}}, api.Expr{}) {
		t.Error("same")
	}
	for i, x := range []api.Expr{bin(api.OpSub, one, un(api.OpNeg, one)), bin(api.OpAdd, one, un(api.OpNot, one)), bin(api.OpAdd, one), {Op: api.ExUn, M: api.OpAdd, L: e.L}, {Op: api.ExBin, M: api.OpAdd, T: 1, L: e.L}, {Op: api.ExBin, M: api.OpAdd, N: 1, L: e.L}} {
		if Same(e, x) || Same(x, e) {
			t.Error(i)
		}
	}
	deep := one
	for range 1 << 16 {
		deep = un(api.OpNeg, deep)
	}
	if Type(scope(), deep) != api.Int || Deep(deep) != 1<<16+1 || Size(deep) != 1<<16+1 || !Same(deep, deep) {
		t.Error("deep")
	}
}
