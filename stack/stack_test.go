package stack

import (
	"slices"
	"testing"

	"ladderback/api"
)

func prog() api.Prog {
	return api.Prog{
		Consts: []api.Const{{T: api.Time}, {T: 0}},
		Vars:   []api.Var{{T: api.Word, N: 1}, {T: api.Dint, N: 2}},
		Blocks: []api.Block{{Kind: api.Ton}},
		Units:  []api.Unit{{Locals: []int{api.Bool}}, {Params: []int{api.Int, api.Time}, Result: api.Dword, Locals: []int{api.Word}}, {Params: []int{api.Int}}},
	}
}

const b, i, d, w, dw, tm = api.Bool, api.Int, api.Dint, api.Word, api.Dword, api.Time

func TestEffects(t *testing.T) {
	rows := []struct {
		u             int
		x             api.Instr
		takes, leaves []int
	}{
		{0, api.Instr{Op: api.OpConst}, nil, []int{tm}}, {0, api.Instr{Op: api.OpLoad}, nil, []int{w}}, {0, api.Instr{Op: api.OpStore}, []int{w}, nil},
		{1, api.Instr{Op: api.OpGet, A: 1}, nil, []int{tm}}, {1, api.Instr{Op: api.OpPut, A: 2}, []int{dw}, nil}, {1, api.Instr{Op: api.OpPut, A: 3}, []int{w}, nil}, {0, api.Instr{Op: api.OpGet}, nil, []int{b}},
		{0, api.Instr{Op: api.OpItem, A: 1}, []int{i}, []int{d}}, {0, api.Instr{Op: api.OpKeep, A: 1}, []int{i, d}, nil},
		{0, api.Instr{Op: api.OpNeg, A: tm}, []int{tm}, []int{tm}}, {0, api.Instr{Op: api.OpNot, A: b}, []int{b}, []int{b}}, {0, api.Instr{Op: api.OpShl, A: dw}, []int{dw, i}, []int{dw}}, {0, api.Instr{Op: api.OpShr, A: w}, []int{w, i}, []int{w}},
		{0, api.Instr{Op: api.OpAdd, A: d}, []int{d, d}, []int{d}}, {0, api.Instr{Op: api.OpXor, A: b}, []int{b, b}, []int{b}}, {0, api.Instr{Op: api.OpLt, A: tm}, []int{tm, tm}, []int{b}}, {0, api.Instr{Op: api.OpConv, A: b, B: tm}, []int{b}, []int{tm}},
		{0, api.Instr{Op: api.OpDup}, []int{0}, []int{0, 0}}, {0, api.Instr{Op: api.OpPop}, []int{0}, nil}, {0, api.Instr{Op: api.OpSwap}, []int{0, 0}, []int{0, 0}},
		{0, api.Instr{Op: api.OpFalse}, []int{b}, nil}, {0, api.Instr{Op: api.OpSwitch}, []int{i}, nil}, {0, api.Instr{Op: api.OpCall, A: 1}, []int{i, tm}, []int{dw}}, {0, api.Instr{Op: api.OpCall, A: 2}, []int{i}, nil},
		{0, api.Instr{Op: api.OpSet, B: 1}, []int{tm}, nil}, {0, api.Instr{Op: api.OpOut, B: 2}, nil, []int{b}},
		{0, api.Instr{Op: api.OpNop}, nil, nil}, {0, api.Instr{Op: api.OpJump}, nil, nil}, {0, api.Instr{Op: api.OpRun}, nil, nil}, {0, api.Instr{Op: api.OpRet}, nil, nil},
		{0, api.Instr{Op: api.OpAdd, A: w}, nil, nil}, {9, api.Instr{Op: api.OpDup}, nil, nil}, {0, api.Instr{Op: api.OpItem}, nil, nil},
	}
	for _, r := range rows {
		if got := Takes(prog(), r.u, r.x); !slices.Equal(got, r.takes) {
			t.Error("takes", r, got)
		}
		if got := Leaves(prog(), r.u, r.x); !slices.Equal(got, r.leaves) {
			t.Error("leaves", r, got)
		}
		if r.u == 9 || r.x.Op == api.OpDup || r.x.Op == api.OpSwap || r.x.Op == api.OpPop || len(r.takes)+len(r.leaves) == 0 {
			continue
		}
		below := []int{tm, b, 0, i}
		if got, e := Step(prog(), r.u, r.x, append(slices.Clone(below), r.takes...)); e != api.OK || !slices.Equal(got, append(slices.Clone(below), r.leaves...)) {
			t.Error("step", r, got, e)
		}
		if len(r.takes) > 0 {
			if got, e := Step(prog(), r.u, r.x, r.takes[1:]); e != api.ErrStack || len(got) > 0 {
				t.Error("too few", r, e)
			}
			other := slices.Clone(r.takes)
			other[0] = other[0]%6 + 1
			if got, e := Step(prog(), r.u, r.x, other); e != api.ErrType || len(got) > 0 {
				t.Error("another type", r, e)
			}
			other[0] = 0
			if _, e := Step(prog(), r.u, r.x, other); e != api.OK {
				t.Error("0 goes with any", r, e)
			}
		}
	}
}

func TestStep(t *testing.T) {
	full := make([]int, api.MaxStack)
	for k := range full {
		full[k] = i
	}
	rows := []struct {
		x    api.Instr
		st   []int
		want []int
		e    api.Errno
	}{
		{api.Instr{Op: api.OpAdd, A: i}, []int{i, i}, []int{i}, api.OK},
		{api.Instr{Op: api.OpRet}, []int{i}, nil, api.ErrStack}, {api.Instr{Op: api.OpRet}, nil, nil, api.OK},
		{api.Instr{Op: api.OpDup}, []int{b, tm}, []int{b, tm, tm}, api.OK}, {api.Instr{Op: api.OpSwap}, []int{i, b, tm}, []int{i, tm, b}, api.OK}, {api.Instr{Op: api.OpPop}, []int{i, b}, []int{i}, api.OK},
		{api.Instr{Op: api.OpPop}, nil, nil, api.ErrStack}, {api.Instr{Op: api.OpSwap}, []int{i}, nil, api.ErrStack},
		{api.Instr{Op: api.OpDup}, full, nil, api.ErrStack}, {api.Instr{Op: api.OpDup}, full[1:], full, api.OK}, {api.Instr{Op: api.OpLoad}, full, nil, api.ErrStack}, {api.Instr{Op: api.OpAdd, A: i}, full, full[1:], api.OK},
		{api.Instr{Op: api.OpAdd, A: w}, nil, nil, api.ErrType}, {api.Instr{Op: 99}, nil, nil, api.ErrOp}, {api.Instr{Op: api.OpLoad, A: 7}, full, nil, api.ErrRef},
		{api.Instr{Op: api.OpConst, A: 1}, nil, []int{0}, api.OK}, {api.Instr{Op: api.OpAdd, A: i}, []int{tm, i}, nil, api.ErrType},
	}
	for _, r := range rows {
		was := slices.Clone(r.st)
		got, e := Step(prog(), 0, r.x, r.st)
		if e != r.e || !slices.Equal(got, r.want) || !slices.Equal(was, r.st) {
			t.Error(r, got, e)
		}
	}
	if _, e := Step(prog(), 5, api.Instr{}, nil); e != api.ErrArg {
		t.Error("unit")
	}
	room := make([]int, 1, 5)
	Step(prog(), 0, api.Instr{Op: api.OpLoad}, room)
	if room[:2][1] != 0 {
		t.Error("room behind")
	}
}
