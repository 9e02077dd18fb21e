package upload

import (
	"bytes"
	"strings"
	"testing"

	"ladderback/api"
	"ladderback/box"
	"ladderback/build"
	"ladderback/crc"
	"ladderback/eval"
	"ladderback/octet"
	"ladderback/parse"
	"ladderback/sample"
	"ladderback/show"
	"ladderback/state"
	"ladderback/verify"
	"ladderback/vm"
)

func in(l ...int) api.Instr {
	l = append(l, 0, 0)
	return api.Instr{Op: l[0], A: l[1], B: l[2]}
}

var ret = in(api.OpRet)

func prog(code ...api.Instr) api.Prog {
	return api.Prog{
		Consts: []api.Const{{T: api.Int, V: 1}, {T: api.Int, V: 0}, {T: api.Time, V: 50}},
		Vars:   []api.Var{{Name: "a", T: api.Bool, N: 1, Area: api.In}, {Name: "q", T: api.Bool, N: 1, Area: api.Out}, {Name: "n", T: api.Int, N: 1, Area: api.In}},
		Blocks: []api.Block{{Name: "t", Kind: api.Ton}},
		Units:  []api.Unit{{Name: "main", Locals: []int{api.Int}, Code: code}},
	}
}

func text(t *testing.T, p api.Prog) string {
	b, ok := box.Encode(p)
	s, e := Decompile(b)
	if !ok || e != api.OK {
		t.Error("decompile", ok, e)
	}
	return s
}

func TestExamples(t *testing.T) {
	load := func(n int) api.Instr { return in(api.OpLoad, n) }
	not, and := in(api.OpNot, api.Bool), in(api.OpAnd, api.Bool)
	rows := []struct {
		code []api.Instr
		how  int
		want string
	}{
		{[]api.Instr{load(0), load(1), not, and, in(api.OpStore, 1), ret}, Noted, "{ 5 } RUNG a / q ( q ) ;\n    { 1 } ;\n"},
		{[]api.Instr{load(0), load(1), not, and, not, in(api.OpStore, 1), ret}, Noted, "{ 6 } RUNG [ / a , q ] ( q ) ;\n    { 1 } ;\n"},
		{[]api.Instr{ret}, Noted, "BEGIN\n    { 1 } ;\n  END_PROGRAM\n"},
		{[]api.Instr{in(api.OpJump, 0)}, Shaped, "BEGIN\n    { 0 } LOOP\n      { 1 } ;\n    END_LOOP ;\n  END_PROGRAM\n"},
		{[]api.Instr{load(0), in(api.OpSet), in(api.OpConst, 2), in(api.OpSet, 0, 1), in(api.OpRun), ret}, Noted, "{ 5 } RUNG a ( t . IN , PT := T#50ms ) ;\n"},
		{[]api.Instr{in(api.OpConst, 2), in(api.OpSet, 0, 1), load(0), in(api.OpSet), in(api.OpRun), ret}, Noted, "{ 5 } t ( PT := T#50ms , IN := a ) ;\n"},
		{[]api.Instr{load(1), load(0), in(api.OpStore, 1), in(api.OpFalse, 4), ret}, Shaped, "LOCAL l1 : BOOL ;\n  BEGIN\n    { 0 } RUNG q ( l1 ) ;\n    { 3 } RUNG a ( q ) ;\n"},
		{[]api.Instr{load(0), in(api.OpFalse, 4), in(api.OpNop), in(api.OpJump, 4), in(api.OpNop), load(1), in(api.OpFalse, 2), ret}, Dispatched, "LOCAL l1 : INT ;\n  BEGIN\n    { 0 } l1 := INT#0 ;\n    { 0 } LOOP\n      { 0 } CASE l1\n"},
	}
	for i, r := range rows {
		p := prog(r.code...)
		if How(p, 0) != r.how {
			t.Error(i, How(p, 0))
		}
		if s := text(t, p); !strings.Contains(s, r.want) {
			t.Error(i, s)
		}
		round(t, i, p)
	}
}

// round asks what is promised of one round, and tells how many of the units are made how.
func round(t *testing.T, what int, p api.Prog) [4]int {
	var hows [4]int
	b, ok := box.Encode(p)
	text, e := Decompile(b)
	if !ok || e != api.OK {
		t.Fatal("decompile", what, e)
	}
	for u := range p.Units {
		hows[How(p, u)]++
	}
	s, errno := Source(p)
	read, _, e2 := parse.Source(text)
	shown, fine := show.Source(s)
	again, _ := show.Source(read)
	if errno != api.OK || e2 != api.OK || !fine || shown != text || again != text {
		t.Fatal("source", what, errno, e2)
	}
	b2, line, e := Recompile(text)
	if line != 0 || e != api.OK {
		t.Fatal("recompile", what, line, e)
	}
	text2, e := Decompile(b2)
	b3, _, e3 := Recompile(text2)
	text3, e4 := Decompile(b3)
	if e != api.OK || e3 != api.OK || e4 != api.OK || !bytes.Equal(b2, b3) || text2 != text3 {
		t.Fatal("round", what, e, e3, e4)
	}
	p2, _ := box.Decode(b2)
	for u := range p2.Units {
		if How(p2, u) != Noted {
			t.Fatal("noted", what, u)
		}
	}
	sides(t, what, p, s, p2)
	return hows
}

// sides holds a program, its source, and what is recompiled against each other.
func sides(t *testing.T, what int, p api.Prog, s api.Source, p2 api.Prog) {
	m, _ := vm.New(p)
	x, _ := eval.New(s)
	y, e := vm.New(p2)
	if e != api.OK {
		t.Fatal("accepted", what, e)
	}
	now := m.Start()
	d := sample.New(what)
	for range 4 {
		inputs := d.Inputs()
		for _, fuel := range []int{20, 700} {
			a, out1, used1, _ := m.Scan(now, inputs, 7, fuel)
			b, out2, used2, _ := x.Scan(now, inputs, 7, fuel)
			if (a.Fault == 0) != (b.Fault == 0) || used1 != used2 || a.Fault == 0 && !state.Same(a, b) || len(out1) != len(out2) {
				t.Fatal("text", what, a, b, used1, used2)
			}
			c, _, _, _ := y.Scan(now, inputs, 7, 60*fuel)
			if a.Fault != api.FaultWatch && c.Fault != api.FaultWatch && !state.Same(a, c) {
				t.Fatal("recompiled", what, a, c)
			}
			if a.Fault != api.FaultWatch && c.Fault == api.FaultWatch {
				t.Fatal("takes far more", what)
			}
		}
		now, _, _, _ = m.Scan(now, inputs, 7, 700)
		now.Fault = 0
	}
}

func TestSamples(t *testing.T) {
	var all [4]int
	for seed := range 1500 {
		p := sample.Prog(seed)
		small := true
		for u, x := range p.Units {
			small = small && (len(x.Code) <= api.MaxRaw || How(p, u) == Noted)
		}
		if !small {
			b, _ := box.Encode(p)
			if s, e := Decompile(b); s != "" || e != api.ErrLimit {
				t.Fatal("limit", seed)
			}
			continue
		}
		for k, n := range round(t, seed, p) {
			all[k] += n
		}
	}
	for seed := range 500 {
		p, _ := build.Prog(sample.Source(seed))
		if hows := round(t, seed, p); hows[Noted] != len(p.Units) {
			t.Fatal("compiled code is noted", seed)
		}
	}
	t.Log(all)
	if all[0] > 0 || all[Noted] < 30 || all[Shaped] < 1000 || all[Dispatched] < 50 {
		t.Error("hows", all)
	}
}

// sealed makes the sum of a container right.
func sealed(b []byte) []byte {
	return octet.Put(b[:len(b)-4], 4, int(crc.Of(b[:len(b)-4])))
}

func TestErrors(t *testing.T) {
	b, _ := box.Encode(prog(ret, in(api.OpNop)))
	real := bytes.Clone(b)
	at := bytes.LastIndex(real, []byte{api.OpRet, 0, 0, 0, 0})
	real[at] = api.OpReal
	rows := []struct {
		b []byte
		e api.Errno
	}{{nil, api.ErrShort}, {append([]byte("X"), b...), api.ErrMagic}, {b[:len(b)-1], api.ErrSum}, {sealed(real), api.ErrReal}, {sealed(b), api.OK}}
	for i, r := range rows {
		if s, e := Decompile(r.b); e != r.e || (s == "") != (e != api.OK) {
			t.Error(i, e)
		}
	}
	for i := range b {
		other := bytes.Clone(b)
		other[i] ^= 4
		if s, e := Decompile(other); e != api.ErrSum && e != api.ErrMagic || s != "" {
			t.Error("one byte", i, e)
		}
		s, e := Decompile(sealed(other))
		if (s == "") != (e != api.OK) {
			t.Error("sealed", i, e)
		}
	}
	b, _ = box.Encode(prog(in(api.OpPop), ret))
	if s, e := Decompile(b); s != "" || e != api.ErrStack {
		t.Error("not accepted", e)
	}
	if s, e := Source(prog(in(api.OpPop), ret)); e != api.ErrStack || len(s.Funcs) > 0 {
		t.Error("source", e)
	}
	for _, u := range []int{-1, 1, 1 << 62} {
		if How(prog(ret), u) != 0 {
			t.Error(u)
		}
	}
	if How(prog(in(api.OpPop), ret), 0) != 0 {
		t.Error("how")
	}
}

func TestLimits(t *testing.T) {
	nops := func(n int) []api.Instr {
		l := make([]api.Instr, n, n+1)
		return append(l, ret)
	}
	consts := func(p api.Prog, n int) api.Prog {
		p.Consts = make([]api.Const, n)
		for i := range p.Consts {
			p.Consts[i] = api.Const{T: api.Int, V: i}
		}
		return p
	}
	slots := func(p api.Prog, n int) api.Prog {
		p.Units[0].Locals = make([]int, n)
		for i := range n {
			p.Units[0].Locals[i] = api.Bool
		}
		return p
	}
	rows := []struct {
		p api.Prog
		e api.Errno
	}{
		{prog(nops(127)...), api.OK}, {prog(nops(128)...), api.ErrLimit}, {consts(prog(nops(3)...), 512), api.OK}, {consts(prog(nops(3)...), 513), api.ErrLimit}, {consts(prog(ret), 1024), api.OK},
		{slots(prog(nops(3)...), 128), api.OK}, {slots(prog(nops(3)...), 129), api.ErrLimit}, {slots(prog(ret), 1024), api.OK},
	}
	for i, r := range rows {
		b, _ := box.Encode(r.p)
		s, e := Decompile(b)
		src, e2 := Source(r.p)
		if e != r.e || e2 != r.e || (s == "") != (e != api.OK) || len(src.Funcs) > 0 != (e == api.OK) || !verify.Right(r.p) {
			t.Error(i, e, e2)
		}
	}
	// Its rungs grow, so that what is noted doesn't compile any more.
	var wide []api.Instr
	for len(wide)+13 < api.MaxCode {
		wide = append(wide, in(api.OpLoad), in(api.OpLoad, 1), in(api.OpXor, api.Bool), in(api.OpLoad), in(api.OpXor, api.Bool), in(api.OpLoad, 1), in(api.OpXor, api.Bool), in(api.OpStore, 1))
	}
	if s, e := Source(prog(append(wide, ret)...)); e != api.ErrLimit || len(s.Funcs) > 0 {
		t.Error("too much", e)
	}
}

func TestRecompile(t *testing.T) {
	deep := "TRUE"
	for range api.MaxStack {
		deep = "( n = TO_INT ( " + deep + " ) )"
	}
	frame := "PROJECT MEM n : INT := INT#0 ;\n MEM b : BOOL := FALSE ;\n PROGRAM m BEGIN @ END_PROGRAM END_PROJECT"
	rows := []struct {
		s    string
		line int
		e    api.Errno
	}{
		{"", 1, api.ErrText}, {strings.Replace(frame, "@", "", 1), 0, api.OK}, {strings.Replace(frame, "@", "{ 0 } n := b", 1), 3, api.ErrText}, {strings.Replace(frame, "@", "{ 0 } n := b ;", 1), 0, api.ErrType},
		{strings.Replace(frame, "MEM b", "MEM n", 1), 1 + 2, api.ErrText}, {strings.Replace(strings.Replace(frame, "MEM b", "MEM n", 1), "@", "", 1), 0, api.ErrName}, {strings.Replace(frame, "@", "{ 0 } b := "+deep+" ;", 1), 0, api.ErrStack},
		{strings.Replace(frame, "@", strings.Repeat("{ 0 } b := b ;", api.MaxCode/2), 1), 0, api.ErrLimit},
	}
	for i, r := range rows {
		b, line, e := Recompile(r.s)
		if line != r.line || e != r.e || len(b) > 0 != (e == api.OK) {
			t.Error(i, line, e)
		}
	}
}

func TestNames(t *testing.T) {
	p := prog(ret)
	p.Vars[0].Name, p.Vars[1].Name, p.Blocks[0].Name, p.Units[0].Name = "Motor 1", "q", "q", "if"
	s := text(t, p)
	for _, w := range []string{"IN v_motor_1 :", "OUT q :", "FB q_2 :", "PROGRAM v_if\n"} {
		if !strings.Contains(s, w) {
			t.Error(w, s)
		}
	}
	round(t, 1, p)
}
