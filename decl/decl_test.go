package decl

import (
	"slices"
	"testing"

	"ladderback/api"
)

func ret(n int) []api.Instr {
	l := make([]api.Instr, n)
	for i := range l {
		l[i].Op = api.OpRet
	}
	return l
}

func vars(n int) []api.Var {
	l := make([]api.Var, n)
	for i := range l {
		l[i] = api.Var{T: api.Int, N: 1}
	}
	return l
}

func blocks(n int) []api.Block {
	l := make([]api.Block, n)
	for i := range l {
		l[i] = api.Block{Kind: api.Ton}
	}
	return l
}

func consts(n int) []api.Const {
	l := make([]api.Const, n)
	for i := range l {
		l[i] = api.Const{T: api.Int, V: 5}
	}
	return l
}

func types(n int) []int {
	l := make([]int, n)
	for i := range l {
		l[i] = api.Int
	}
	return l
}

func someUnits(n int) []api.Unit {
	l := make([]api.Unit, n)
	for i := range l {
		l[i].Code = ret(1)
	}
	return l
}

func progOf(l []api.Unit) api.Prog { return api.Prog{Units: l} }

func TestTables(t *testing.T) {
	rows := []struct {
		v []api.Var
		b []api.Block
		e api.Errno
	}{
		{nil, nil, api.OK}, {vars(64), blocks(32), api.OK}, {vars(65), nil, api.ErrLimit}, {nil, blocks(33), api.ErrLimit},
		{make([]api.Var, 1), blocks(33), api.ErrLimit},
		{[]api.Var{{T: 0, N: 1}}, nil, api.ErrType}, {[]api.Var{{T: 7, N: 1}}, nil, api.ErrType},
		{[]api.Var{{T: 1, N: 0}}, nil, api.ErrType}, {[]api.Var{{T: 1, N: -1}}, nil, api.ErrType}, {[]api.Var{{T: 1, N: 16, Area: 2, Init: 1}}, nil, api.OK}, {[]api.Var{{T: 1, N: 17}}, nil, api.ErrType},
		{[]api.Var{{T: 1, N: 1, Area: 3}}, nil, api.ErrType}, {[]api.Var{{T: 1, N: 1, Area: -1}}, nil, api.ErrType}, {[]api.Var{{T: 1, N: 1, Init: 2}}, nil, api.ErrType},
		{nil, []api.Block{{Kind: 0}}, api.ErrType}, {nil, []api.Block{{Kind: 8}, {Kind: 9}}, api.ErrType},
	}
	for i, r := range rows {
		if e := Tables(r.v, r.b); e != r.e {
			t.Error(i, e)
		}
		if e := Check(api.Prog{Vars: r.v, Blocks: r.b, Units: someUnits(1)}); e != r.e {
			t.Error("check", i, e)
		}
	}
}

func TestHead(t *testing.T) {
	rows := []struct {
		params []int
		result int
		locals []int
		first  bool
		e      api.Errno
	}{
		{nil, 0, nil, true, api.OK}, {types(8), 2, types(1015), false, api.OK}, {types(8), 2, types(1016), false, api.ErrLimit}, {types(8), 0, types(1016), false, api.OK},
		{types(9), 0, nil, false, api.ErrLimit}, {make([]int, 9), 0, nil, true, api.ErrLimit}, {nil, 0, make([]int, 1025), true, api.ErrLimit},
		{[]int{0}, 0, nil, false, api.ErrType}, {nil, 7, nil, false, api.ErrType}, {nil, -1, nil, false, api.ErrType}, {nil, 0, []int{1, 9}, false, api.ErrType},
		{types(1), 0, nil, true, api.ErrType}, {nil, 1, nil, true, api.ErrType}, {nil, 0, types(1024), true, api.OK},
	}
	for i, r := range rows {
		if e := Head(r.params, r.result, r.locals, r.first); e != r.e {
			t.Error(i, e)
		}
		u := api.Unit{Params: r.params, Result: r.result, Locals: r.locals, Code: ret(1)}
		l := append(someUnits(1), u)
		if r.first {
			l = []api.Unit{u}
		}
		if e := Check(progOf(l)); e != r.e {
			t.Error("check", i, e)
		}
	}
}

func TestCheck(t *testing.T) {
	full := someUnits(2)
	full[1].Code = ret(api.MaxCode)
	long := someUnits(2)
	long[1].Code = ret(api.MaxCode + 1)
	empty := someUnits(2)
	empty[1].Code = nil
	both := someUnits(2)
	both[0].Code = nil
	both[1].Result = 9
	head := someUnits(1)
	head[0].Code, head[0].Result = nil, 9
	rows := []struct {
		p api.Prog
		e api.Errno
	}{
		{api.Prog{}, api.ErrLimit}, {progOf(someUnits(8)), api.OK}, {progOf(someUnits(9)), api.ErrLimit},
		{api.Prog{Consts: consts(1024), Units: someUnits(1)}, api.OK}, {api.Prog{Consts: consts(1025), Units: someUnits(1)}, api.ErrLimit},
		{api.Prog{Consts: []api.Const{{T: 0}}, Vars: vars(65), Units: someUnits(1)}, api.ErrLimit},
		{api.Prog{Consts: []api.Const{{T: 0}}, Units: someUnits(1)}, api.ErrType}, {api.Prog{Consts: []api.Const{{T: 1, V: 2}}, Units: someUnits(1)}, api.ErrType},
		{api.Prog{Consts: []api.Const{{T: 0}}, Units: empty}, api.ErrType},
		{progOf(full), api.OK}, {progOf(long), api.ErrLimit}, {progOf(empty), api.ErrLimit}, {progOf(both), api.ErrLimit}, {progOf(head), api.ErrType},
	}
	for i, r := range rows {
		if e := Check(r.p); e != r.e {
			t.Error(i, e)
		}
	}
	p := api.Prog{Consts: consts(3), Vars: vars(3), Blocks: blocks(3), Units: someUnits(3)}
	for len(p.Units) > 0 {
		if Check(p) != api.OK {
			t.Error("without the last", len(p.Units))
		}
		n := len(p.Units) - 1
		p = api.Prog{Consts: p.Consts[:n], Vars: p.Vars[:n], Blocks: p.Blocks[:n], Units: p.Units[:n]}
	}
}

func TestScope(t *testing.T) {
	p := api.Prog{Vars: vars(2), Blocks: blocks(1), Units: []api.Unit{{Locals: []int{3}}, {Params: []int{1, 2}, Result: 4, Locals: []int{5}}}}
	s := Scope(p, 1)
	if !slices.Equal(s.Vars, p.Vars) || !slices.Equal(s.Blocks, p.Blocks) || !slices.Equal(s.Slots, []int{1, 2, 4, 5}) || len(s.Sigs) != 2 || !slices.Equal(s.Sigs[1].Params, []int{1, 2}) || s.Sigs[1].Result != 4 || s.Sigs[0].Result != 0 || len(s.Sigs[0].Params) != 0 {
		t.Error(s)
	}
	s.Vars[0].Name, s.Blocks[0].Name, s.Sigs[1].Params[0] = "x", "x", 9
	if p.Vars[0].Name != "" || p.Blocks[0].Name != "" || p.Units[1].Params[0] != 1 {
		t.Error("shared")
	}
	if first := Scope(p, 0); !slices.Equal(first.Slots, []int{3}) {
		t.Error(first)
	}
	for _, u := range []int{-1, 2, 1 << 62} {
		if s := Scope(p, u); len(s.Slots) != 0 || len(s.Vars) != 2 {
			t.Error(u)
		}
	}
	if len(Sigs(nil)) != 0 {
		t.Error("none")
	}
}
