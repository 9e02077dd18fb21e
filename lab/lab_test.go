package lab

import (
	"slices"
	"testing"

	"ladderback/api"
	"ladderback/box"
	"ladderback/build"
	"ladderback/feed"
	"ladderback/sample"
	"ladderback/state"
	"ladderback/upload"
)

func in(l ...int) api.Instr {
	l = append(l, 0, 0)
	return api.Instr{Op: l[0], A: l[1], B: l[2]}
}

func container(code ...api.Instr) []byte {
	b, _ := box.Encode(api.Prog{Consts: []api.Const{{T: api.Int, V: 12}}, Vars: []api.Var{{Name: "n", T: api.Int, N: 1, Area: api.In}, {Name: "q", T: api.Int, N: 1, Area: api.Out, Init: 3}}, Units: []api.Unit{{Name: "m", Code: code}}})
	return b
}

var divide = container(in(api.OpConst), in(api.OpLoad), in(api.OpDiv, api.Int), in(api.OpStore, 1), in(api.OpRet))

func samples(l ...int) *feed.Feed {
	f := feed.New(len(l))
	for _, n := range l {
		f.Offer(feed.Sample{In: []int{n}, DT: 5})
	}
	return f
}

func TestTurns(t *testing.T) {
	x, e := New(container(in(api.OpRet)), 9)
	if e != api.OK {
		t.Fatal(e)
	}
	rows, ok := x.Turn(samples(1))
	if !ok || len(rows) != 3 {
		t.Fatal(rows)
	}
	for _, r := range rows {
		if r.Used != 1 || r.Fault != 0 || !slices.Equal(r.Out, []int{3}) {
			t.Error(r)
		}
	}
	text, _ := upload.Decompile(container(in(api.OpRet)))
	if x.Text() != text || text == "" || !x.Fair() {
		t.Error("text")
	}
	for side := range 3 {
		if s := x.State(side); s.Now != 5 || s.Vars[0][0] != 1 {
			t.Error(s)
		}
	}
	x.State(0).Vars[0][0] = 7
	if x.State(0).Vars[0][0] != 1 {
		t.Error("apart")
	}
	for _, side := range []int{-1, 3, 1 << 62} {
		if !state.Same(x.State(side), api.State{}) {
			t.Error(side)
		}
	}
	if rows, ok := x.Turn(feed.New(1)); ok || len(rows) > 0 || x.Run(nil) != 0 {
		t.Error("nothing waits")
	}
}

func TestFaults(t *testing.T) {
	x, _ := New(divide, 99)
	if n := x.Run(samples(4, 3)); n != 2 || x.State(0).Vars[1][0] != 4 || x.State(2).Now != 10 || !x.Fair() {
		t.Error(n, x.State(0))
	}
	rows, ok := x.Turn(samples(0))
	for side, r := range rows {
		if r.Fault != api.FaultZero || r.Used != 0 || !slices.Equal(r.Out, []int{0}) || x.State(side).Vars[1][0] != 4 || x.State(side).Now != 10 {
			t.Error(side, r)
		}
	}
	before := x.State(1)
	rows, ok = x.Turn(samples(2))
	if !ok || rows[1].Fault != api.FaultZero || !state.Same(x.State(1), before) || !x.Fair() {
		t.Error("it stays")
	}
	watch, _ := New(divide, 4)
	if rows, _ := watch.Turn(samples(4)); rows[0].Fault != api.FaultWatch || rows[1].Fault != api.FaultWatch || !watch.Fair() {
		t.Error(rows)
	}
	loop, _ := New(container(in(api.OpJump)), 1<<62)
	if n := loop.Run(samples(1, 2, 3)); n != 3 || loop.State(1).Fault != api.FaultWatch || !loop.Fair() {
		t.Error("loop")
	}
}

func TestEven(t *testing.T) {
	fresh := func() *Bench { x, _ := New(divide, 99); return x }
	row := func(fault, used int) Row { return Row{Fault: fault, Used: used} }
	rows := []struct {
		l    []Row
		f    func(*Bench)
		want bool
	}{
		{[]Row{row(0, 5), row(0, 5), row(0, 9)}, nil, true}, {[]Row{row(0, 5), row(0, 6), row(0, 5)}, nil, false}, {[]Row{row(1, 0), row(0, 0), row(0, 5)}, nil, false}, {[]Row{row(0, 0), row(2, 0), row(0, 5)}, nil, false},
		{[]Row{row(0, 5), row(0, 5), row(0, 5)}, func(x *Bench) { x.sides[1].st.Now++ }, false}, {[]Row{row(2, 0), row(3, 0), row(2, 0)}, func(x *Bench) { x.sides[1].st.Now++ }, true},
		{[]Row{row(0, 5), row(0, 5), row(0, 5)}, func(x *Bench) { x.sides[2].st.Now++ }, false}, {[]Row{row(0, 5), row(0, 5), row(1, 5)}, func(x *Bench) { x.sides[2].st.Now++ }, true}, {[]Row{row(1, 0), row(1, 0), row(0, 5)}, func(x *Bench) { x.sides[2].st.Now++ }, true}, {[]Row{row(2, 0), row(2, 0), row(2, 5)}, func(x *Bench) { x.sides[2].st.Now++ }, false},
	}
	for i, r := range rows {
		x := fresh()
		if r.f != nil {
			r.f(x)
		}
		if x.even(r.l) != r.want {
			t.Error(i)
		}
	}
	x := fresh()
	x.sides[1].st.Vars[1][0] = 77
	x.sides[1].st.Now = 1
	x.Turn(samples(1))
	if x.Fair() {
		t.Error("unfair")
	}
	x.Turn(samples(0))
	if x.Fair() {
		t.Error("it stays unfair")
	}
}

func TestNilAndWrong(t *testing.T) {
	var x *Bench
	if rows, ok := x.Turn(samples(1)); ok || len(rows) > 0 || x.Text() != "" || x.Run(samples(1)) != 0 || !state.Same(x.State(0), api.State{}) || x.Fair() {
		t.Error("nil")
	}
	if x, e := New(nil, 5); x != nil || e != api.ErrShort {
		t.Error(e)
	}
	if x, e := New(container(in(api.OpPop), in(api.OpRet)), 5); x != nil || e != api.ErrStack {
		t.Error(e)
	}
}

func TestSamples(t *testing.T) {
	for seed := range 700 {
		p := sample.Prog(seed)
		if seed%3 == 0 {
			p, _ = build.Prog(sample.Source(seed))
		}
		b, _ := box.Encode(p)
		x, e := New(b, []int{40, 300, 3000}[seed%3])
		if e == api.ErrLimit {
			continue
		}
		if e != api.OK {
			t.Fatal(seed, e)
		}
		f := feed.New(6)
		d := sample.New(seed)
		for f.Offer(feed.Sample{In: d.Inputs(), DT: d.N(20)}) {
		}
		if n := x.Run(f); n != 6 || !x.Fair() {
			t.Fatal(seed, n)
		}
	}
}
