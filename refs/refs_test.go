package refs

import (
	"testing"

	"ladderback/api"
)

const least, most = -1 << 63, 1<<63 - 1

func prog() api.Prog {
	return api.Prog{
		Consts: []api.Const{{T: 2, V: 1}},
		Vars:   []api.Var{{T: 2, N: 1}, {T: 2, N: 2}, {T: 1, N: 0}},
		Blocks: []api.Block{{Kind: api.Ton}, {Kind: 99}},
		Units:  []api.Unit{{Locals: []int{1}}, {Params: []int{1, 2}, Result: 3, Locals: []int{4}}},
	}
}

func TestOne(t *testing.T) {
	rows := []struct {
		u int
		i api.Instr
		e api.Errno
	}{
		{-1, api.Instr{Op: 99}, api.ErrArg}, {2, api.Instr{}, api.ErrArg}, {most, api.Instr{}, api.ErrArg},
		{0, api.Instr{Op: 99}, api.ErrOp}, {0, api.Instr{Op: api.OpRet, A: 1}, api.ErrOp}, {0, api.Instr{Op: api.OpLoad, A: -1}, api.ErrOp}, {0, api.Instr{Op: api.OpLoad, A: 1 << 16}, api.ErrOp}, {0, api.Instr{Op: 48}, api.ErrOp},
		{0, api.Instr{Op: api.OpConst}, api.OK}, {0, api.Instr{Op: api.OpConst, A: 1}, api.ErrRef},
		{0, api.Instr{Op: api.OpLoad}, api.OK}, {0, api.Instr{Op: api.OpStore}, api.OK}, {0, api.Instr{Op: api.OpLoad, A: 1}, api.ErrRef}, {0, api.Instr{Op: api.OpStore, A: 1}, api.ErrRef}, {0, api.Instr{Op: api.OpLoad, A: 2}, api.OK}, {0, api.Instr{Op: api.OpLoad, A: 3}, api.ErrRef},
		{0, api.Instr{Op: api.OpItem}, api.ErrRef}, {0, api.Instr{Op: api.OpKeep}, api.ErrRef}, {0, api.Instr{Op: api.OpItem, A: 1}, api.OK}, {0, api.Instr{Op: api.OpKeep, A: 1}, api.OK}, {0, api.Instr{Op: api.OpKeep, A: 3}, api.ErrRef},
		{0, api.Instr{Op: api.OpGet}, api.OK}, {0, api.Instr{Op: api.OpPut, A: 1}, api.ErrRef}, {1, api.Instr{Op: api.OpPut, A: 3}, api.OK}, {1, api.Instr{Op: api.OpGet, A: 4}, api.ErrRef},
		{0, api.Instr{Op: api.OpAdd, A: api.Int}, api.OK}, {0, api.Instr{Op: api.OpAdd, A: api.Word}, api.ErrType}, {0, api.Instr{Op: api.OpNot}, api.ErrType}, {0, api.Instr{Op: api.OpGe, A: api.Bool}, api.ErrType},
		{0, api.Instr{Op: api.OpConv, A: 1, B: 6}, api.OK}, {0, api.Instr{Op: api.OpConv, A: 0, B: 6}, api.ErrType}, {0, api.Instr{Op: api.OpConv, A: 1, B: 7}, api.ErrType},
		{0, api.Instr{Op: api.OpCall, A: 1}, api.OK}, {0, api.Instr{Op: api.OpCall}, api.ErrRef}, {0, api.Instr{Op: api.OpCall, A: 2}, api.ErrRef},
		{0, api.Instr{Op: api.OpSet, B: 1}, api.OK}, {0, api.Instr{Op: api.OpSet, B: 2}, api.ErrRef}, {0, api.Instr{Op: api.OpSet, A: 1}, api.ErrRef}, {0, api.Instr{Op: api.OpSet, A: 2}, api.ErrRef},
		{0, api.Instr{Op: api.OpOut, B: 3}, api.OK}, {0, api.Instr{Op: api.OpOut, B: 4}, api.ErrRef}, {0, api.Instr{Op: api.OpOut, A: 2}, api.ErrRef}, {0, api.Instr{Op: api.OpRun}, api.OK}, {0, api.Instr{Op: api.OpRun, A: 1}, api.OK}, {0, api.Instr{Op: api.OpRun, A: 2}, api.ErrRef},
		{0, api.Instr{Op: api.OpNop, A: 500, B: 99}, api.OK}, {0, api.Instr{Op: api.OpJump, A: 500, B: 99}, api.OK}, {0, api.Instr{Op: api.OpSwitch, A: 500}, api.OK}, {0, api.Instr{Op: api.OpDup}, api.OK},
	}
	for _, r := range rows {
		if e := One(prog(), r.u, r.i); e != r.e {
			t.Error(r, e)
		}
		p := prog()
		p.Consts = append(p.Consts, api.Const{})
		p.Vars = append(p.Vars, api.Var{})
		p.Blocks = append(p.Blocks, api.Block{})
		p.Units = append(p.Units, api.Unit{})
		if e := One(p, r.u, r.i); r.e == api.OK && e != api.OK {
			t.Error("more", r, e)
		}
	}
}

func TestJump(t *testing.T) {
	j := api.Instr{Op: api.OpJump}
	rows := []struct {
		l  []api.Instr
		pc int
		e  api.Errno
	}{
		{nil, 0, api.OK}, {nil, -1, api.OK}, {[]api.Instr{{Op: api.OpJump, A: 9}}, 1, api.OK}, {[]api.Instr{{Op: api.OpJump, A: 9}}, least, api.OK},
		{[]api.Instr{j}, 0, api.OK}, {[]api.Instr{{Op: api.OpJump, A: 1}}, 0, api.ErrJump}, {[]api.Instr{{Op: api.OpFalse, A: -1}}, 0, api.ErrJump}, {[]api.Instr{{Op: api.OpFalse, A: most}}, 0, api.ErrJump},
		{[]api.Instr{{Op: api.OpSwitch}}, 0, api.ErrJump}, {[]api.Instr{{Op: api.OpSwitch}, {}}, 0, api.OK},
		{[]api.Instr{{Op: api.OpSwitch, A: 1}, j}, 0, api.ErrJump}, {[]api.Instr{{Op: api.OpSwitch, A: 1}, j, {}}, 0, api.OK}, {[]api.Instr{{Op: api.OpSwitch, A: 2}, j, {}, {}}, 0, api.ErrJump}, {[]api.Instr{{Op: api.OpSwitch, A: 2}, j, j, j}, 0, api.OK},
		{[]api.Instr{j, j, {Op: api.OpSwitch, A: 1}, j, j}, 2, api.OK}, {[]api.Instr{j, j, {Op: api.OpSwitch, A: 2}, j, j}, 2, api.ErrJump}, {[]api.Instr{{Op: api.OpSwitch, A: 2}, {}, j, j}, 0, api.ErrJump},
		{[]api.Instr{{Op: api.OpSwitch, A: most}, j, j, j}, 0, api.ErrJump}, {[]api.Instr{{Op: api.OpSwitch, A: least}, j}, 0, api.OK},
		{[]api.Instr{{Op: api.OpLoad, A: most}}, 0, api.OK},
	}
	for _, r := range rows {
		if e := Jump(r.l, r.pc); e != r.e {
			t.Error(r, e)
		}
	}
}

func TestCheck(t *testing.T) {
	p := prog()
	p.Units[0].Code = []api.Instr{{Op: api.OpNop}, {Op: api.OpJump, A: 9}, {Op: api.OpLoad, A: 9}}
	p.Units[1].Code = []api.Instr{{Op: api.OpNop}, {Op: api.OpAdd, A: 9}, {Op: api.OpJump, A: 9}}
	for _, r := range []struct {
		u, place int
		e        api.Errno
	}{{0, 1, api.ErrJump}, {1, 1, api.ErrType}, {2, 0, api.ErrArg}, {-1, 0, api.ErrArg}} {
		if place, e := Check(p, r.u); place != r.place || e != r.e {
			t.Error(r, place, e)
		}
	}
	p.Units[0].Code = p.Units[0].Code[:1]
	if place, e := Check(p, 0); place != 0 || e != api.OK {
		t.Error(place, e)
	}
}
