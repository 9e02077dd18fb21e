package vm

import (
	"slices"
	"testing"

	"ladderback/api"
	"ladderback/state"
)

const least, most = -1 << 63, 1<<63 - 1

func in(l ...int) api.Instr {
	l = append(l, 0, 0)
	return api.Instr{Op: l[0], A: l[1], B: l[2]}
}

var vars = []api.Var{
	{Name: "i", T: api.Int, N: 1, Area: api.In}, {Name: "o", T: api.Int, N: 1, Area: api.Out, Init: 4},
	{Name: "a", T: api.Int, N: 3, Area: api.Mem, Init: 2}, {Name: "b", T: api.Bool, N: 1, Area: api.Out},
}

var consts = []api.Const{{T: api.Int, V: 1}, {T: api.Bool, V: 1}, {T: api.Time, V: 5}, {T: api.Int, V: 7}, {T: api.Int, V: 0}}

func prog(code ...api.Instr) api.Prog {
	return api.Prog{Consts: consts, Vars: vars, Blocks: []api.Block{{Name: "t", Kind: api.Ton}}, Units: []api.Unit{
		{Name: "main", Locals: []int{api.Int, api.Bool}, Code: code},
		{Name: "f", Params: []int{api.Int, api.Int}, Result: api.Int, Locals: []int{api.Int}, Code: []api.Instr{in(api.OpGet, 0), in(api.OpGet, 1), in(api.OpSub, api.Int), in(api.OpGet, 3), in(api.OpAdd, api.Int), in(api.OpPut, 2), in(api.OpRet)}},
		{Name: "g", Code: []api.Instr{in(api.OpConst, 3), in(api.OpStore, 1), in(api.OpRet)}},
	}}
}

type want struct {
	code             []api.Instr
	input, dt        int
	out, fault, used int
}

func check(t *testing.T, i int, w want) {
	m, e := New(prog(w.code...))
	if e != api.OK {
		t.Error(i, "not accepted", e)
		return
	}
	s := m.Start()
	got, out, used, e := m.Scan(s, []int{w.input}, w.dt, 1000)
	if e != api.OK || out[0] != w.out || got.Fault != w.fault || used != w.used {
		t.Error(i, out, got.Fault, used, e)
	}
	if w.fault != api.FaultNone {
		again, out, used, e := m.Scan(got, []int{9}, 5, 1000)
		if e != api.OK || !state.Same(again, got) || !slices.Equal(out, []int{0, 0}) || used != 0 {
			t.Error(i, "a fault stays")
		}
		got.Fault = 0
		if !state.Same(got, s) {
			t.Error(i, "all is as it was")
		}
		return
	}
	same, _, used, _ := m.Scan(s, []int{w.input}, w.dt, w.used)
	if used != w.used || !state.Same(same, got) {
		t.Error(i, "just enough")
	}
	if less, _, used, _ := m.Scan(s, []int{w.input}, w.dt, w.used-1); less.Fault != api.FaultWatch || used != 0 {
		t.Error(i, "one less")
	}
}

func TestOperations(t *testing.T) {
	load, store, one, ret := in(api.OpLoad, 0), in(api.OpStore, 1), in(api.OpConst, 0), in(api.OpRet)
	seven, add := in(api.OpConst, 3), in(api.OpAdd, api.Int)
	rows := []want{
		{[]api.Instr{in(api.OpGet, 0), in(api.OpPop), ret}, 0, 0, 4, 0, 3},
		{[]api.Instr{load, one, in(api.OpSub, api.Int), store, ret}, 5, 0, 4, 0, 5},
		{[]api.Instr{load, in(api.OpItem, 2), store, ret}, 2, 0, 2, 0, 4},
		{[]api.Instr{load, in(api.OpItem, 2), store, ret}, 0, 0, 2, 0, 4},
		{[]api.Instr{seven, one, in(api.OpPop), store, ret}, 0, 0, 7, 0, 5},
		{[]api.Instr{seven, load, one, in(api.OpCall, 1), add, store, ret}, 5, 0, 11, 0, 14},
		{[]api.Instr{load, in(api.OpItem, 2), store, ret}, 3, 0, 0, api.FaultIndex, 0},
		{[]api.Instr{load, in(api.OpItem, 2), store, ret}, -1, 0, 0, api.FaultIndex, 0},
		{[]api.Instr{load, seven, in(api.OpKeep, 2), one, in(api.OpItem, 2), store, ret}, 1, 0, 7, 0, 7},
		{[]api.Instr{load, seven, in(api.OpKeep, 2), ret}, 3, 0, 0, api.FaultIndex, 0},
		{[]api.Instr{seven, load, in(api.OpDiv, api.Int), store, ret}, 0, 0, 0, api.FaultZero, 0},
		{[]api.Instr{seven, load, in(api.OpMod, api.Int), store, ret}, 4, 0, 3, 0, 5},
		{[]api.Instr{load, in(api.OpNeg, api.Int), store, ret}, 4, 0, -4, 0, 4},
		{[]api.Instr{load, in(api.OpConv, api.Int, api.Bool), in(api.OpConv, api.Bool, api.Int), store, ret}, 4, 0, 1, 0, 5},
		{[]api.Instr{load, in(api.OpDup), in(api.OpMul, api.Int), store, ret}, 5, 0, 25, 0, 5},
		{[]api.Instr{load, seven, in(api.OpSwap), in(api.OpSub, api.Int), store, ret}, 5, 0, 2, 0, 6},
		{[]api.Instr{in(api.OpJump, 2), in(api.OpNop), seven, store, ret}, 0, 0, 7, 0, 4},
		{[]api.Instr{in(api.OpGet, 1), in(api.OpFalse, 4), seven, store, ret}, 0, 0, 4, 0, 3},
		{[]api.Instr{in(api.OpConst, 1), in(api.OpFalse, 4), seven, store, ret}, 0, 0, 7, 0, 5},
		{[]api.Instr{load, one, in(api.OpCall, 1), store, ret}, 5, 0, 4, 0, 12},
		{[]api.Instr{in(api.OpCall, 2), ret}, 5, 0, 7, 0, 5},
		{[]api.Instr{load, in(api.OpPut, 0), in(api.OpGet, 0), in(api.OpGet, 0), add, store, ret}, 5, 0, 10, 0, 7},
		{[]api.Instr{in(api.OpConst, 1), in(api.OpSet, 0, 0), in(api.OpConst, 2), in(api.OpSet, 0, 1), in(api.OpRun, 0), in(api.OpOut, 0, 2), in(api.OpConv, api.Bool, api.Int), store, ret}, 0, 9, 0, 0, 9},
		{[]api.Instr{in(api.OpJump, 0)}, 0, 0, 0, api.FaultWatch, 0},
	}
	for i, w := range rows {
		check(t, i, w)
	}
	for k, out := range map[int]int{-1: 0, 0: 1, 1: 7, 2: 0, 32767: 0} {
		code := []api.Instr{load, in(api.OpSwitch, 2), in(api.OpJump, 8), in(api.OpJump, 11), in(api.OpNop), in(api.OpConst, 4), store, ret, one, store, ret, seven, store, ret}
		used := 5
		if k < 0 || k > 1 {
			used = 6
		}
		check(t, k, want{code, k, 0, out, 0, used})
	}
}

func TestTimer(t *testing.T) {
	m, _ := New(prog(in(api.OpConst, 1), in(api.OpSet, 0, 0), in(api.OpConst, 2), in(api.OpSet, 0, 1), in(api.OpRun, 0), in(api.OpOut, 0, 2), in(api.OpStore, 3), in(api.OpRet)))
	s := m.Start()
	for i, q := range []int{0, 0, 1, 1} {
		var out []int
		s, out, _, _ = m.Scan(s, nil, 3, 99)
		if out[1] != q || s.Now != 3*(i+1) {
			t.Error(i, out)
		}
	}
}

func TestFuel(t *testing.T) {
	m, _ := New(prog(in(api.OpNop), in(api.OpRet)))
	for _, r := range [][2]int{{least, 1}, {-1, 1}, {0, 1}, {1, 1}, {2, 0}, {most, 0}} {
		if s, _, _, e := m.Scan(m.Start(), nil, 0, r[0]); s.Fault != r[1] || e != api.OK {
			t.Error(r)
		}
	}
	one, _ := New(prog(in(api.OpRet)))
	if s, _, used, _ := one.Scan(one.Start(), nil, 0, 0); s.Fault != api.FaultWatch || used != 0 {
		t.Error("no fuel")
	}
	stopped := one.Start()
	stopped.Fault = api.FaultZero
	if s, out, used, e := one.Scan(stopped, []int{9}, 5, 9); e != api.OK || used != 0 || !state.Same(s, stopped) || !slices.Equal(out, []int{0, 0}) {
		t.Error("a fault stays")
	}
	loop, _ := New(prog(in(api.OpJump, 0)))
	if s, _, used, _ := loop.Scan(loop.Start(), nil, 0, most); s.Fault != api.FaultWatch || used != 0 {
		t.Error("loop")
	}
}

func TestWrong(t *testing.T) {
	if m, e := New(api.Prog{}); m != nil || e != api.ErrLimit {
		t.Error("empty")
	}
	if m, e := New(prog(in(api.OpPop))); m != nil || e != api.ErrStack {
		t.Error("stack")
	}
	var none *Machine
	if s := none.Start(); !state.Same(s, api.State{}) {
		t.Error("nil")
	}
	if s, out, used, e := none.Scan(api.State{}, nil, 0, 9); e != api.ErrArg || used != 0 || len(out) > 0 || !state.Same(s, api.State{}) {
		t.Error("nil scan")
	}
	m, _ := New(prog(in(api.OpRet)))
	s := m.Start()
	s.Vars[0][0] = 1 << 20
	if s, out, used, e := m.Scan(s, nil, 0, 9); e != api.ErrArg || used != 0 || len(out) > 0 || !state.Same(s, api.State{}) {
		t.Error("a state that doesn't fit")
	}
}

func TestOwnMemory(t *testing.T) {
	p := prog(in(api.OpConst, 3), in(api.OpStore, 1), in(api.OpRet))
	p.Consts = slices.Clone(consts)
	m, _ := New(p)
	p.Units[0].Code[0] = in(api.OpConst, 0)
	p.Consts[3].V = 1
	s := m.Start()
	if _, out, _, _ := m.Scan(s, nil, 0, 9); out[0] != 7 || s.Vars[1][0] != 4 {
		t.Error(out)
	}
}
