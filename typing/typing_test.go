package typing

import (
	"slices"
	"testing"

	"ladderback/api"
)

const least, most = -1 << 63, 1<<63 - 1

func in(op, a int) api.Instr { return api.Instr{Op: op, A: a} }

func prog(l ...api.Instr) api.Prog {
	return api.Prog{Consts: []api.Const{{T: api.Int}, {T: api.Bool}}, Units: []api.Unit{{Locals: []int{api.Bool, api.Int}, Code: l}}}
}

func TestBehind(t *testing.T) {
	nop, j := in(api.OpNop, 0), in(api.OpJump, 7)
	rows := []struct {
		l    []api.Instr
		pc   int
		want []int
	}{
		{nil, 0, nil}, {[]api.Instr{nop}, 1, nil}, {[]api.Instr{nop}, -1, nil}, {[]api.Instr{nop}, 0, []int{1}},
		{[]api.Instr{in(api.OpJump, -9)}, 0, []int{-9}}, {[]api.Instr{in(api.OpFalse, 0)}, 0, []int{0, 1}}, {[]api.Instr{in(api.OpFalse, 1)}, 0, []int{1}}, {[]api.Instr{in(api.OpFalse, most)}, 0, []int{1, most}},
		{[]api.Instr{in(api.OpRet, 0)}, 0, nil}, {[]api.Instr{in(api.OpSwitch, 0), nop}, 0, []int{1}}, {[]api.Instr{in(api.OpSwitch, 2), j, j, nop}, 0, []int{1, 2, 3}},
		{[]api.Instr{nop, in(api.OpSwitch, most)}, 1, []int{2, 3, 4}}, {[]api.Instr{in(api.OpSwitch, least)}, 0, []int{1}},
	}
	for _, r := range rows {
		if got := Behind(r.l, r.pc); !slices.Equal(got, r.want) {
			t.Error(r, got)
		}
	}
}

func TestErrors(t *testing.T) {
	get, pop, ret, nop := in(api.OpGet, 0), in(api.OpPop, 0), in(api.OpRet, 0), in(api.OpNop, 0)
	int1 := in(api.OpConst, 0)
	rows := []struct {
		l     []api.Instr
		place int
		e     api.Errno
	}{
		{[]api.Instr{get, ret}, 1, api.ErrStack},
		{[]api.Instr{get, in(api.OpLoad, 0), in(api.OpJump, 9)}, 1, api.ErrRef},
		{[]api.Instr{nop}, 0, api.ErrJump},
		{[]api.Instr{in(api.OpJump, 2), nop, ret, nop}, 0, api.OK},
		{[]api.Instr{get, in(api.OpFalse, 3), nop, ret}, 0, api.OK},
		{[]api.Instr{get, in(api.OpFalse, 0), get}, 2, api.ErrJump},
		{[]api.Instr{get, get, in(api.OpFalse, 0)}, 2, api.ErrJump},
		{[]api.Instr{get, get, in(api.OpFalse, 0), pop, ret}, 2, api.ErrStack},
		{[]api.Instr{get, in(api.OpFalse, 4), get, in(api.OpJump, 5), int1, pop, ret}, 4, api.ErrType},
		{[]api.Instr{get, in(api.OpFalse, 4), get, in(api.OpJump, 5), get, pop, ret}, 0, api.OK},
		{[]api.Instr{get, in(api.OpFalse, 4), get, in(api.OpJump, 6), nop, nop, ret}, 5, api.ErrStack},
		{[]api.Instr{int1, in(api.OpSwitch, 2), in(api.OpJump, 0), in(api.OpJump, 5), nop, ret}, 0, api.OK},
		{[]api.Instr{int1, in(api.OpSwitch, 1), in(api.OpJump, 3), pop, ret}, 3, api.ErrStack},
		{[]api.Instr{int1, in(api.OpNot, api.Bool), ret}, 1, api.ErrType},
		{[]api.Instr{in(api.OpJump, 1), int1, in(api.OpJump, 1)}, 2, api.ErrStack},
		{nil, 0, api.OK},
	}
	for i, r := range rows {
		st, reached, place, e := Entries(prog(r.l...), 0)
		if place != r.place || e != r.e {
			t.Error(i, place, e)
		}
		if e != api.OK && (len(st) > 0 || len(reached) > 0 || Highest(prog(r.l...), 0) != 0) || e == api.OK && (len(st) != len(r.l) || len(reached) != len(r.l)) {
			t.Error("answers", i)
		}
	}
	for _, u := range []int{-1, 1, most} {
		if _, _, place, e := Entries(prog(ret), u); place != 0 || e != api.ErrArg || Highest(prog(ret), u) != 0 {
			t.Error(u)
		}
	}
}

func TestEntries(t *testing.T) {
	l := []api.Instr{in(api.OpGet, 0), in(api.OpConst, 0), in(api.OpDup, 0), in(api.OpAdd, api.Int), in(api.OpPop, 0), in(api.OpFalse, 8), in(api.OpRet, 0), in(api.OpGet, 0), in(api.OpRet, 0)}
	st, reached, place, e := Entries(prog(l...), 0)
	want := [][]int{nil, {1}, {1, 2}, {1, 2, 2}, {1, 2}, {1}, nil, nil, nil}
	if place != 0 || e != api.OK {
		t.Fatal(place, e)
	}
	for pc := range want {
		if !slices.Equal(st[pc], want[pc]) || reached[pc] != (pc != 7) {
			t.Error(pc, st[pc], reached[pc])
		}
	}
	if Highest(prog(l...), 0) != 3 {
		t.Error("highest")
	}
	if Highest(prog(in(api.OpGet, 0), in(api.OpPop, 0), in(api.OpRet, 0)), 0) != 1 || Highest(prog(in(api.OpRet, 0)), 0) != 0 {
		t.Error("highest of small ones")
	}
	if Highest(prog(in(api.OpRet, 0), in(api.OpGet, 0), in(api.OpJump, 1)), 0) != 0 {
		t.Error("what isn't reached plays no part")
	}
}
