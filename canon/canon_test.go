package canon

import (
	"testing"

	"ladderback/api"
	"ladderback/build"
	"ladderback/decl"
	"ladderback/deep"
	"ladderback/emit"
	"ladderback/eval"
	"ladderback/merge"
	"ladderback/sample"
	"ladderback/state"
	"ladderback/stmt"
	"ladderback/vm"
)

func in(l ...int) api.Instr {
	l = append(l, 0, 0)
	return api.Instr{Op: l[0], A: l[1], B: l[2]}
}

func prog(code ...api.Instr) api.Prog {
	return api.Prog{Consts: []api.Const{{T: 2, V: 5}, {T: 2, V: 5}, {T: 1, V: 1}}, Vars: []api.Var{{T: api.Int, N: 1}}, Blocks: []api.Block{{Kind: api.Ctu}}, Units: []api.Unit{{Locals: []int{api.Bool, api.Int}, Code: code}, {Result: api.Int, Code: []api.Instr{in(api.OpRet)}}}}
}

const (
	get, put, ret, jump, no, nop = api.OpGet, api.OpPut, api.OpRet, api.OpJump, api.OpFalse, api.OpNop
)

func slot(n int) api.Expr { return api.Expr{Op: api.ExSlot, N: n} }

func TestSmallOnes(t *testing.T) {
	l, ok := Read(prog(in(get), in(no, 3, 5), in(ret), in(ret)), 0)
	want := []api.Stmt{{Kind: api.StIf, Cost: 2, E: slot(0), Body: []api.Stmt{{Kind: api.StReturn, Cost: 1}}}, {Cost: 1}}
	if !ok || !stmt.Same(l, want) {
		t.Error(l, ok)
	}
	l, ok = Read(prog(in(ret)), 0)
	if !ok || !stmt.Same(l, []api.Stmt{{Cost: 1}}) {
		t.Error(l, ok)
	}
	// Constants may stand elsewhere.
	l, ok = Read(prog(in(api.OpConst, 1), in(api.OpStore), in(ret)), 0)
	if !ok || len(l) != 2 || l[0].E.N != 5 || l[0].Cost != 2 {
		t.Error(l, ok)
	}
	// Inputs and a run become one call.
	l, ok = Read(prog(in(get), in(api.OpSet), in(get), in(api.OpSet, 0, 1), in(api.OpRun), in(ret)), 0)
	if !ok || len(l) != 2 || l[0].Kind != api.StBlock || len(l[0].Args) != 2 || l[0].Cost != 5 {
		t.Error(l, ok)
	}
}

func TestNotNoted(t *testing.T) {
	rows := [][]api.Instr{
		{in(nop), in(ret)}, {in(nop, 1, api.NoteSkip), in(ret)}, {in(jump, 1), in(ret)}, {in(get), in(no, 3), in(ret), in(ret)}, {in(get), in(no, 3, api.NoteElse), in(ret), in(ret)}, {in(get), in(no, 0, api.NoteIf), in(ret)},
		{in(get), in(no, 3, api.NoteElse), in(jump, 3, api.NoteSkip), in(ret)}, {in(get), in(api.OpPop), in(ret)}, {in(get), in(api.OpDup), in(put), in(put), in(ret)}, {in(get), in(get, 1), in(put, 1), in(put), in(ret)},
		{in(get), in(no, 3, api.NoteUntil), in(ret), in(ret)}, {in(nop, 2, api.NoteLoop), in(jump, 0), in(ret)}, {in(nop, 2, api.NoteLoop), in(jump, 0, api.NoteNext), in(ret)}, {in(nop, 3, api.NoteLoop), in(jump, 0, api.NoteBack), in(ret)},
		{in(nop, 2, api.NoteHead), in(jump, 0, api.NoteBack), in(ret)}, {in(jump, 1, api.NoteExit), in(ret)}, {in(nop, 3, api.NoteLoop), in(jump, 2, api.NoteExit), in(jump, 0, api.NoteBack), in(ret)},
		{in(nop, 4, api.NoteRepeat), in(jump, 0, api.NoteNext), in(get), in(no, 0, api.NoteUntil), in(ret)},
		{in(get, 1), in(api.OpSwitch, 0, 2), in(ret)}, {in(get, 1), in(api.OpSwitch, 1, 4), in(jump, 3, api.NoteArm), in(jump, 4, api.NoteSkip), in(ret)}, {in(get, 1), in(api.OpSwitch, 0, 3), in(jump, 3), in(ret)},
		{in(jump, 3, api.NoteSkip), in(ret), in(ret), in(ret)}, {in(nop, 2, api.NoteLoop), in(jump, 0, api.NoteBack)}, {in(api.OpCall, 1), in(api.OpStore), in(ret)},
		{in(ret), in(api.OpNot, api.Bool), in(ret)}, {in(ret), in(get), in(put, 1), in(ret)}, {in(ret), in(get), in(api.OpNot, api.Word), in(put), in(ret)}, {in(ret), in(get), in(ret)},
		{in(get), in(no, 4, api.NoteIf), in(nop, 5, api.NoteLoop), in(jump, 2, api.NoteBack), in(ret)},
	}
	for i, code := range rows {
		if l, ok := Read(prog(code...), 0); ok || len(l) > 0 {
			t.Error(i, l)
		}
	}
	for _, u := range []int{-1, 2, 1 << 62} {
		if _, ok := Read(prog(in(ret)), u); ok || Like(prog(in(ret)), u, nil) {
			t.Error(u)
		}
	}
	if _, ok := Read(prog(in(api.OpPop), in(ret)), 0); ok {
		t.Error("not accepted")
	}
	other := prog(in(ret))
	other.Units[1].Code = []api.Instr{in(api.OpPop), in(ret)}
	if l, ok := Read(other, 0); ok || len(l) > 0 {
		t.Error("another unit is wrong")
	}
	wide := []api.Stmt{{Kind: api.StCase, E: slot(1), Arms: []api.Arm{{Labels: []int{0}, Body: []api.Stmt{{Kind: api.StReturn}}}, {Labels: []int{7, 255}}}}}
	p := prog()
	p.Units[0].Code, p.Consts = emit.Unit(decl.Scope(p, 0), nil, wide)
	if l, ok := Read(p, 0); !ok || !Like(p, 0, l) || !stmt.Same(stmt.Erase(l), wide) {
		t.Error("labels", l, ok)
	}
}

func TestLike(t *testing.T) {
	p := prog(in(api.OpConst, 1), in(api.OpStore), in(ret))
	five := []api.Stmt{{Cost: 9}, {Kind: api.StVar, Cost: 3, E: api.Expr{Op: api.ExConst, T: api.Int, N: 5}}}
	six := []api.Stmt{{Kind: api.StVar, E: api.Expr{Op: api.ExConst, T: api.Int, N: 6}}}
	if !Like(p, 0, five) || Like(p, 0, six) || Like(p, 0, nil) || Like(p, 1, five) || !Like(p, 1, nil) || Like(p, 0, []api.Stmt{{Kind: api.StExit}}) {
		t.Error("like")
	}
	dear := deep.Stmts(five)
	dear[1].Cost = -1
	if Like(p, 0, dear) {
		t.Error("not right")
	}
	p.Units[0].Code[0].A = 99
	if Like(p, 0, five) {
		t.Error("no such constant")
	}
}

func TestSamples(t *testing.T) {
	for seed := range 1200 {
		s := sample.Source(seed)
		p, e := build.Prog(s)
		if e != api.OK {
			t.Fatal(seed, e)
		}
		back := deep.Source(s)
		var pool []api.Const
		for u := range p.Units {
			if !Like(p, u, s.Funcs[u].Body) {
				t.Fatal("like", seed, u)
			}
			l, ok := Read(p, u)
			if !ok || !Like(p, u, l) || !stmt.Same(build.Costs(merge.Merge(l[:len(l)-1]), decl.Scope(p, u)), l[:len(l)-1]) {
				t.Fatal("read", seed, u, ok)
			}
			code, more := emit.Unit(decl.Scope(p, u), pool, l)
			pool = more
			for pc, i := range code {
				if i != p.Units[u].Code[pc] {
					t.Fatal("code", seed, u, pc)
				}
			}
			back.Funcs[u].Body = l
		}
		m, _ := vm.New(p)
		x, e := eval.New(back)
		if e != api.OK {
			t.Fatal("right", seed, e)
		}
		inputs := sample.New(seed).Inputs()
		a, _, used1, _ := m.Scan(m.Start(), inputs, 6, 2000)
		b, _, used2, _ := x.Scan(m.Start(), inputs, 6, 2000)
		if (a.Fault == 0) != (b.Fault == 0) || used1 != used2 || a.Fault == 0 && !state.Same(a, b) {
			t.Fatal("meaning", seed)
		}
	}
}

func TestRawOnesNeverPanic(t *testing.T) {
	for seed := range 1500 {
		p := sample.Prog(seed)
		for u := range p.Units {
			if l, ok := Read(p, u); ok != (len(l) > 0) || ok && !Like(p, u, l) {
				t.Fatal(seed, u)
			}
		}
	}
}
