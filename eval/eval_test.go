package eval

import (
	"slices"
	"testing"

	"ladderback/api"
	"ladderback/state"
	"ladderback/stmt"
)

const least, most = -1 << 63, 1<<63 - 1

func c(v int) api.Expr    { return api.Expr{Op: api.ExConst, T: api.Int, N: v} }
func b(v int) api.Expr    { return api.Expr{Op: api.ExConst, T: api.Bool, N: v} }
func vari(n int) api.Expr { return api.Expr{Op: api.ExVar, N: n} }
func slot(n int) api.Expr { return api.Expr{Op: api.ExSlot, N: n} }
func item(n int, e api.Expr) api.Expr {
	return api.Expr{Op: api.ExItem, N: n, L: []api.Expr{e}}
}
func bin(m int, l ...api.Expr) api.Expr { return api.Expr{Op: api.ExBin, M: m, L: l} }
func put(n, cost int, e api.Expr) api.Stmt {
	return api.Stmt{Kind: api.StVar, N: n, Cost: cost, E: e}
}
func local(n, cost int, e api.Expr) api.Stmt {
	return api.Stmt{Kind: api.StSlot, N: n, Cost: cost, E: e}
}
func list(l ...api.Stmt) []api.Stmt { return l }

var exit, next, back = api.Stmt{Kind: api.StExit, Cost: 1}, api.Stmt{Kind: api.StNext, Cost: 1}, api.Stmt{Kind: api.StReturn, Cost: 1}

// the variables: 0 an input, 1 an output, 2 an array of 3.
func source(body ...api.Stmt) api.Source {
	return api.Source{
		Vars:   []api.Var{{T: api.Int, N: 1, Area: api.In}, {T: api.Int, N: 1, Area: api.Out, Init: 4}, {T: api.Int, N: 3, Init: 2}},
		Blocks: []api.Block{{Kind: api.Ctu}},
		Funcs: []api.Func{
			{Name: "main", Locals: []int{api.Int, api.Int}, Body: body},
			{Name: "f", Params: []int{api.Int, api.Int}, Result: api.Int, Locals: []int{api.Int}, Body: list(local(3, 1, bin(api.OpSub, slot(0), slot(1))), local(2, 1, slot(3)), back, put(1, 1, c(99)))},
			{Name: "g", Body: list(put(1, 2, bin(api.OpAdd, vari(1), c(1))))},
		},
	}
}

type row struct {
	body             []api.Stmt
	input            int
	out, fault, used int
}

func while(cost int, e api.Expr, l ...api.Stmt) api.Stmt {
	return api.Stmt{Kind: api.StWhile, Cost: cost, E: e, Body: l}
}
func repeat(cost int, e api.Expr, l ...api.Stmt) api.Stmt {
	return api.Stmt{Kind: api.StRepeat, Cost: cost, E: e, Body: l}
}
func loop(l ...api.Stmt) api.Stmt { return api.Stmt{Kind: api.StLoop, Body: l} }
func when(cost int, e api.Expr, body, other []api.Stmt) api.Stmt {
	return api.Stmt{Kind: api.StIf, Cost: cost, E: e, Body: body, Else: other}
}

func rows() []row {
	less := bin(api.OpLt, slot(0), vari(0))
	more := local(0, 1, bin(api.OpAdd, slot(0), c(1)))
	tell := put(1, 1, slot(0))
	zero := bin(api.OpDiv, c(1), c(0))
	three := api.Stmt{Kind: api.StCase, Cost: 2, E: vari(0), Arms: []api.Arm{{Labels: []int{0, 5}, Body: list(put(1, 1, c(10)))}, {Labels: []int{1}}}, Else: list(put(1, 3, c(30)))}
	return []row{
		{nil, 0, 4, 0, 0},
		{list(api.Stmt{Cost: 7}), 0, 4, 0, 7},
		{list(put(1, 3, vari(0))), 9, 9, 0, 3},
		{list(local(1, 1, c(6)), put(1, 2, slot(1))), 9, 6, 0, 3},
		{list(api.Stmt{Kind: api.StItem, N: 2, Cost: 1, I: c(1), E: c(8)}, put(1, 1, item(2, c(1)))), 0, 8, 0, 2},
		{list(api.Stmt{Kind: api.StItem, N: 2, I: vari(0), E: c(8)}), 3, 0, api.FaultIndex, 0},
		{list(api.Stmt{Kind: api.StItem, N: 2, I: c(3), E: zero}), 0, 0, api.FaultZero, 0},
		{list(api.Stmt{Kind: api.StItem, N: 2, I: item(2, c(7)), E: zero}), 0, 0, api.FaultIndex, 0},
		{list(put(1, 1, zero)), 0, 0, api.FaultZero, 0},
		{list(api.Stmt{Kind: api.StField, M: 0, Cost: 1, E: b(1)}, api.Stmt{Kind: api.StBlock, Cost: 2, Args: []api.Arg{{Field: 2, E: c(5)}}}, put(1, 1, api.Expr{Op: api.ExField, M: 4})), 0, 1, 0, 4},
		{list(api.Stmt{Kind: api.StCall, N: 1, M: 0, Cost: 5, L: []api.Expr{c(9), vari(0)}}, tell), 2, 7, 0, 9},
		{list(api.Stmt{Kind: api.StCall, N: 1, M: -1, L: []api.Expr{c(9), vari(0)}}), 2, 4, 0, 3},
		{list(api.Stmt{Kind: api.StCall, N: 1, M: -1, L: []api.Expr{zero, vari(0)}}), 2, 0, api.FaultZero, 0},
		{list(api.Stmt{Kind: api.StItem, N: 2, I: c(0), E: c(8)}, put(1, 1, item(2, c(0)))), 0, 8, 0, 1},
		{list(api.Stmt{Kind: api.StCall, N: 2, M: -1, Cost: 1}, api.Stmt{Kind: api.StCall, N: 2, M: -1, Cost: 1}), 2, 6, 0, 6},
		{list(back, put(1, 1, c(0))), 0, 4, 0, 1},
		{list(when(2, bin(api.OpEq, vari(0), c(1)), list(put(1, 1, c(11))), list(put(1, 4, c(12))))), 1, 11, 0, 3},
		{list(when(2, bin(api.OpEq, vari(0), c(1)), list(put(1, 1, c(11))), list(put(1, 4, c(12))))), 0, 12, 0, 6},
		{list(three), 0, 10, 0, 3}, {list(three), 5, 10, 0, 3}, {list(three), 1, 4, 0, 2}, {list(three), 2, 30, 0, 5}, {list(three), -1, 30, 0, 5},
		{list(while(2, less, more), tell), 3, 3, 0, 12},
		{list(while(0, less, local(0, 0, bin(api.OpAdd, slot(0), c(1)))), tell), 3, 3, 0, 4},
		{list(while(5, b(0))), 3, 4, 0, 5}, {list(while(0, b(0))), 3, 4, 0, 0},
		{list(repeat(2, b(1), more), tell), 3, 1, 0, 4},
		{list(repeat(0, bin(api.OpGe, slot(0), vari(0)), local(0, 0, bin(api.OpAdd, slot(0), c(1)))), tell), 3, 3, 0, 3},
		{list(loop(more, when(0, bin(api.OpEq, slot(0), c(4)), list(exit), nil)), tell), 0, 4, 0, 6},
		{list(loop(more, when(0, bin(api.OpEq, slot(0), c(4)), list(tell, back), nil), next, tell), put(1, 1, c(0))), 0, 4, 0, 9},
		{list(loop(loop(exit), exit), put(1, 1, c(1))), 0, 1, 0, 3},
		{list(while(1, b(1), repeat(1, b(1), exit), local(1, 1, c(1)), exit), put(1, 1, slot(1))), 0, 1, 0, 5},
		{list(loop()), 0, 0, api.FaultWatch, 0}, {list(while(0, b(1))), 0, 0, api.FaultWatch, 0}, {list(repeat(0, b(0))), 0, 0, api.FaultWatch, 0}, {list(loop(api.Stmt{Kind: api.StNext})), 0, 0, api.FaultWatch, 0},
		{list(loop(api.Stmt{Kind: api.StExit})), 0, 4, 0, 0},
	}
}

func TestStatements(t *testing.T) {
	for i, r := range rows() {
		m, e := New(source(r.body...))
		if e != api.OK {
			t.Error(i, "not right", e)
			continue
		}
		s := m.Start()
		got, out, used, e := m.Scan(s, []int{r.input}, 2, 500)
		if e != api.OK || out[0] != r.out || got.Fault != r.fault || used != r.used {
			t.Error(i, out, got.Fault, used, e)
		}
		if r.fault != api.FaultNone {
			again, out, used, _ := m.Scan(got, []int{9}, 5, 1000)
			if !state.Same(again, got) || out[0] != 0 || used != 0 {
				t.Error(i, "a fault stays")
			}
			got.Fault = 0
			if !state.Same(got, s) {
				t.Error(i, "all is as it was")
			}
			continue
		}
		if same, _, used, _ := m.Scan(s, []int{r.input}, 2, r.used); used != r.used || !state.Same(same, got) {
			t.Error(i, "just enough")
		}
		if less, _, _, _ := m.Scan(s, []int{r.input}, 2, r.used-1); r.used > 0 && less.Fault != api.FaultWatch {
			t.Error(i, "one less")
		}
		bare := source(r.body...)
		for k, f := range bare.Funcs {
			bare.Funcs[k].Body = stmt.Erase(f.Body)
		}
		m, _ = New(bare)
		if erased, _, _, _ := m.Scan(s, []int{r.input}, 2, most); !state.Same(erased, got) {
			t.Error(i, "without costs")
		}
	}
}

func TestCheck(t *testing.T) {
	call := func(n int) api.Stmt { return api.Stmt{Kind: api.StCall, N: n, M: -1} }
	change := []struct {
		f func(*api.Source)
		n int
		e api.Errno
	}{
		{func(s *api.Source) {}, -1, api.OK},
		{func(s *api.Source) { s.Funcs = nil }, -1, api.ErrLimit}, {func(s *api.Source) { s.Funcs = make([]api.Func, 9); s.Vars[0].T = 0 }, -1, api.ErrLimit}, {func(s *api.Source) { s.Funcs = make([]api.Func, 8) }, -1, api.OK},
		{func(s *api.Source) { s.Vars = make([]api.Var, 65) }, -1, api.ErrLimit}, {func(s *api.Source) { s.Vars[0].N = 0; s.Funcs[0].Result = 9 }, -1, api.ErrType}, {func(s *api.Source) { s.Blocks[0].Kind = 0 }, -1, api.ErrType},
		{func(s *api.Source) { s.Funcs[0].Params = []int{1} }, 0, api.ErrType}, {func(s *api.Source) { s.Funcs[1].Params = make([]int, 9) }, 1, api.ErrLimit}, {func(s *api.Source) { s.Funcs[2].Result = 7 }, 2, api.ErrType},
		{func(s *api.Source) { s.Funcs[1].Body = list(exit); s.Funcs[2].Result = 7 }, 1, api.ErrType}, {func(s *api.Source) { s.Funcs[2].Body = list(call(0)) }, 2, api.ErrType},
		{func(s *api.Source) { s.Funcs[2].Body = list(call(2)) }, -1, api.ErrCall}, {func(s *api.Source) { s.Funcs[2].Body = list(loop(when(0, b(0), nil, list(call(2))))) }, -1, api.ErrCall},
		{func(s *api.Source) {
			s.Funcs[2].Body = list(api.Stmt{Kind: api.StCase, E: c(1), Arms: []api.Arm{{Labels: []int{1}, Body: list(call(2))}}})
		}, -1, api.ErrCall},
	}
	for i, r := range change {
		s := source()
		r.f(&s)
		if n, e := Check(s); n != r.n || e != r.e {
			t.Error(i, n, e)
		}
		if m, e := New(s); e != r.e || (m == nil) != (e != api.OK) {
			t.Error("new", i)
		}
	}
}

func TestScope(t *testing.T) {
	s := source()
	got := Scope(s, 1)
	if !slices.Equal(got.Slots, []int{2, 2, 2, 2}) || len(got.Vars) != 3 || len(got.Blocks) != 1 || len(got.Sigs) != 3 || !slices.Equal(got.Sigs[1].Params, []int{2, 2}) || got.Sigs[1].Result != 2 {
		t.Error(got)
	}
	got.Vars[0].T = 9
	if s.Vars[0].T != api.Int || len(Scope(s, 3).Slots) != 0 || len(Scope(s, -1).Slots) != 0 || len(Scope(s, 3).Vars) != 3 {
		t.Error("shared")
	}
}

func TestNilAndMisfits(t *testing.T) {
	var none *Machine
	if !state.Same(none.Start(), api.State{}) {
		t.Error("start")
	}
	if s, out, used, e := none.Scan(api.State{}, nil, 0, 5); e != api.ErrArg || used != 0 || len(out) > 0 || !state.Same(s, api.State{}) {
		t.Error("nil")
	}
	m, _ := New(source())
	stopped := m.Start()
	stopped.Fault = api.FaultZero
	if s, out, used, e := m.Scan(stopped, []int{9}, 5, 9); e != api.OK || used != 0 || !state.Same(s, stopped) || !slices.Equal(out, []int{0}) {
		t.Error("a fault stays")
	}
	dear, _ := New(source(api.Stmt{Cost: api.MaxCost}, api.Stmt{Cost: 1}))
	if s, _, _, _ := dear.Scan(dear.Start(), nil, 0, most); s.Fault != api.FaultWatch {
		t.Error("no more fuel than may be")
	}
	free, _ := New(source(api.Stmt{}))
	if s, _, _, _ := free.Scan(free.Start(), nil, 0, least); s.Fault != api.FaultNone {
		t.Error("no less than none")
	}
	if _, e := New(api.Source{Funcs: make([]api.Func, 1)}); e != api.OK {
		t.Error("one function")
	}
	if s, out, used, e := m.Scan(api.State{}, nil, 0, 5); e != api.ErrArg || used != 0 || len(out) > 0 || !state.Same(s, api.State{}) {
		t.Error("misfit")
	}
	if s, _, _, _ := m.Scan(m.Start(), nil, 0, least); s.Fault != 0 {
		t.Error("nothing to charge")
	}
}

func TestOwnMemory(t *testing.T) {
	s := source(put(1, 1, bin(api.OpAdd, c(1), c(2))))
	m, _ := New(s)
	s.Funcs[0].Body[0].E.L[0].N = 50
	if _, out, _, _ := m.Scan(m.Start(), nil, 0, 5); out[0] != 3 {
		t.Error(out)
	}
}
