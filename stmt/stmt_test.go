package stmt

import (
	"reflect"
	"testing"

	"ladderback/api"
)

const least, most = -1 << 63, 1<<63 - 1

var (
	one  = api.Expr{Op: api.ExConst, T: api.Int, N: 1}
	yes  = api.Expr{Op: api.ExConst, T: api.Bool, N: 1}
	time = api.Expr{Op: api.ExConst, T: api.Time, N: 5}
	none = api.Expr{}
)

var scope = api.Scope{
	Vars:   []api.Var{{T: api.Int, N: 1}, {T: api.Bool, N: 2}, {T: 0, N: 1}},
	Blocks: []api.Block{{Kind: api.Ton}, {Kind: 0}},
	Sigs:   []api.Sig{{}, {Params: []int{api.Int, api.Bool}, Result: api.Bool}, {}},
	Slots:  []int{api.Bool, api.Int, 0},
}

func loop(l ...api.Stmt) api.Stmt   { return api.Stmt{Kind: api.StLoop, Body: l} }
func repeat(l ...api.Stmt) api.Stmt { return api.Stmt{Kind: api.StRepeat, Body: l, E: yes} }
func while(l ...api.Stmt) api.Stmt  { return api.Stmt{Kind: api.StWhile, Body: l, E: yes} }
func iff(body, other []api.Stmt) api.Stmt {
	return api.Stmt{Kind: api.StIf, E: yes, Body: body, Else: other}
}
func cases(l ...api.Arm) api.Stmt { return api.Stmt{Kind: api.StCase, E: one, Arms: l} }

var exit, next, back, skip = api.Stmt{Kind: api.StExit}, api.Stmt{Kind: api.StNext}, api.Stmt{Kind: api.StReturn}, api.Stmt{}

var fine = []api.Stmt{
	skip, back, {Cost: api.MaxCost}, {Kind: api.StVar, E: one}, {Kind: api.StSlot, E: yes}, {Kind: api.StSlot, N: 1, E: one}, {Kind: api.StItem, N: 1, I: one, E: yes}, {Kind: api.StField, E: yes}, {Kind: api.StField, M: 1, E: time},
	{Kind: api.StBlock}, {Kind: api.StBlock, Args: []api.Arg{{Field: 1, E: time}, {Field: 0, E: yes}}}, {Kind: api.StBlock, N: 1},
	{Kind: api.StCall, N: 1, M: -1, L: []api.Expr{one, yes}}, {Kind: api.StCall, N: 1, L: []api.Expr{one, yes}}, {Kind: api.StCall, N: 2, M: -1},
	iff(nil, nil), iff([]api.Stmt{back}, []api.Stmt{skip}), while(exit, next), loop(exit, next, iff([]api.Stmt{exit}, []api.Stmt{next})), repeat(exit), repeat(loop(next)), loop(repeat(exit)),
	cases(), cases(api.Arm{Labels: []int{0, 255}}, api.Arm{Labels: []int{1}, Body: []api.Stmt{back}}), loop(cases(api.Arm{Labels: []int{3}, Body: []api.Stmt{exit}})),
}

var wrong = []api.Stmt{
	{Kind: -1}, {Kind: 15}, {Cost: -1}, {Cost: api.MaxCost + 1}, {N: 1}, {M: 1}, {E: one}, {I: one}, {L: []api.Expr{one}}, {Args: []api.Arg{{E: yes}}}, {Body: []api.Stmt{skip}}, {Else: []api.Stmt{skip}}, {Arms: []api.Arm{{Labels: []int{1}}}},
	{Kind: api.StReturn, E: one}, exit, next,
	{Kind: api.StVar, E: yes}, {Kind: api.StVar, E: none}, {Kind: api.StVar, N: 1, E: yes}, {Kind: api.StVar, N: 2, E: none}, {Kind: api.StVar, N: 3, E: one}, {Kind: api.StVar, N: least, E: one}, {Kind: api.StVar, M: 1, E: one}, {Kind: api.StVar, I: one, E: one},
	{Kind: api.StSlot, N: 2, E: none}, {Kind: api.StSlot, N: 3, E: one}, {Kind: api.StSlot, N: 0, E: one}, {Kind: api.StSlot, M: 1, E: yes},
	{Kind: api.StItem, N: 0, I: one, E: one}, {Kind: api.StItem, N: 1, I: yes, E: yes}, {Kind: api.StItem, N: 1, I: one, E: one}, {Kind: api.StItem, N: 1, M: 1, I: one, E: yes}, {Kind: api.StItem, N: most, I: one, E: yes},
	{Kind: api.StField, M: 2, E: yes}, {Kind: api.StField, N: 1, E: yes}, {Kind: api.StField, N: 2, E: yes}, {Kind: api.StField, E: one}, {Kind: api.StField, M: -1, E: yes}, {Kind: api.StField, E: yes, I: one},
	{Kind: api.StBlock, N: 2}, {Kind: api.StBlock, M: 1}, {Kind: api.StBlock, Args: []api.Arg{{E: yes}, {E: yes}}}, {Kind: api.StBlock, Args: []api.Arg{{Field: 2, E: yes}}}, {Kind: api.StBlock, Args: []api.Arg{{E: one}}}, {Kind: api.StBlock, Args: []api.Arg{{Field: most, E: one}}}, {Kind: api.StBlock, E: yes},
	{Kind: api.StCall, N: 0, M: -1}, {Kind: api.StCall, N: 3, M: -1}, {Kind: api.StCall, N: 1, M: -1, L: []api.Expr{one}}, {Kind: api.StCall, N: 1, M: 1, L: []api.Expr{one, yes}}, {Kind: api.StCall, N: 1, M: 9, L: []api.Expr{one, yes}}, {Kind: api.StCall, N: 1, M: -2, L: []api.Expr{one, yes}}, {Kind: api.StCall, N: 1, M: -1, L: []api.Expr{yes, one}}, {Kind: api.StCall, N: 2, M: 0}, {Kind: api.StCall, N: 2, M: 2}, {Kind: api.StCall, N: 2, M: -1, E: yes},
	{Kind: api.StIf, E: one}, {Kind: api.StIf}, {Kind: api.StIf, E: yes, N: 1}, iff([]api.Stmt{exit}, nil), iff(nil, []api.Stmt{next}), iff([]api.Stmt{{Kind: 99}}, nil), {Kind: api.StIf, E: yes, Arms: []api.Arm{{Labels: []int{1}}}},
	{Kind: api.StWhile, E: one}, {Kind: api.StWhile, E: yes, Else: []api.Stmt{skip}}, {Kind: api.StLoop, E: yes}, {Kind: api.StLoop, Cost: 1}, {Kind: api.StLoop, Else: []api.Stmt{skip}}, {Kind: api.StRepeat, E: one}, repeat(next), repeat(iff([]api.Stmt{next}, nil)), loop(repeat(next)), {Kind: api.StRepeat, E: yes, Else: []api.Stmt{skip}},
	{Kind: api.StCase, E: yes}, cases(api.Arm{}), cases(api.Arm{Labels: []int{1, 1}}), cases(api.Arm{Labels: []int{2, 1}}), cases(api.Arm{Labels: []int{-1}}), cases(api.Arm{Labels: []int{256}}), cases(api.Arm{Labels: []int{1}}, api.Arm{Labels: []int{0, 1}}), cases(api.Arm{Labels: []int{1}, Body: []api.Stmt{exit}}), {Kind: api.StCase, E: one, Body: []api.Stmt{skip}}, {Kind: api.StCase, E: one, Else: []api.Stmt{exit}},
}

func TestRight(t *testing.T) {
	if !Right(scope, fine) || !Right(api.Scope{}, nil) {
		t.Error("all")
	}
	for i, x := range fine {
		if !Right(scope, []api.Stmt{x}) || !Right(scope, Erase([]api.Stmt{x})) {
			t.Error("fine", i)
		}
	}
	for i, x := range wrong {
		if Right(scope, []api.Stmt{skip, x}) {
			t.Error("wrong", i, x)
		}
		if k := x.Kind; k != api.StExit && k != api.StNext && Right(scope, []api.Stmt{loop(iff([]api.Stmt{x}, nil))}) && Right(scope, []api.Stmt{iff([]api.Stmt{x}, nil)}) {
			t.Error("within", i)
		}
	}
}

func TestSame(t *testing.T) {
	all := append(append([]api.Stmt(nil), fine...), wrong...)
	for i, x := range all {
		for k, y := range all {
			if Same([]api.Stmt{x}, []api.Stmt{y}) != reflect.DeepEqual(x, y) {
				t.Error(i, k)
			}
		}
	}
	if !Same(nil, []api.Stmt{}) || Same(nil, []api.Stmt{{}}) || !Same([]api.Stmt{{Body: []api.Stmt{}}}, []api.Stmt{{}}) {
		t.Error("lists")
	}
}

func TestErase(t *testing.T) {
	l := []api.Stmt{skip, {Cost: 4}, {Kind: api.StVar, Cost: 9, E: one}, {Kind: api.StIf, Cost: 2, E: yes, Body: []api.Stmt{skip, back}, Else: []api.Stmt{{Kind: api.StReturn, Cost: 8}, skip}}, cases(api.Arm{Labels: []int{1}, Body: []api.Stmt{skip, {Kind: api.StReturn, Cost: 1}}})}
	want := []api.Stmt{{Kind: api.StVar, E: one}, iff([]api.Stmt{back}, []api.Stmt{back}), cases(api.Arm{Labels: []int{1}, Body: []api.Stmt{back}})}
	got := Erase(l)
	if !Same(got, want) || !Same(Erase(got), got) || len(Erase([]api.Stmt{skip})) != 0 {
		t.Error(got)
	}
	got[2].Arms[0].Labels[0] = 7
	if l[4].Arms[0].Labels[0] != 1 || l[4].Arms[0].Body[1].Cost != 1 {
		t.Error("shared")
	}
}

func TestCountAndDeep(t *testing.T) {
	l := []api.Stmt{skip, loop(iff([]api.Stmt{exit}, []api.Stmt{skip, next}), cases(api.Arm{Labels: []int{1}, Body: []api.Stmt{loop(exit)}}))}
	if Count(l) != 9 || Deep(l) != 4 || Count(nil) != 0 || Deep(nil) != 0 || Deep([]api.Stmt{skip}) != 1 {
		t.Error(Count(l), Deep(l))
	}
}
