package flow

import (
	"reflect"
	"slices"
	"testing"

	"ladderback/api"
)

const least, most = -1 << 63, 1<<63 - 1

func in(op, a int) api.Instr { return api.Instr{Op: op, A: a} }

var nop, ret = in(api.OpNop, 0), in(api.OpRet, 0)

func jump(a int) api.Instr  { return in(api.OpJump, a) }
func falls(a int) api.Instr { return in(api.OpFalse, a) }
func many(a int) api.Instr  { return in(api.OpSwitch, a) }

func TestGoes(t *testing.T) {
	l := []api.Instr{nop, falls(1), many(2), jump(6), jump(0), ret, many(0), falls(0), nop}
	want := [][]int{{1}, {2, 1}, {6, 0, 5}, {6}, {0}, nil, {7}, {8, 0}, {9}}
	for pc := range l {
		if got := Goes(l, pc); !slices.Equal(got, want[pc]) {
			t.Error(pc, got)
		}
	}
	for _, pc := range []int{-1, 9, most, least} {
		if len(Goes(l, pc)) != 0 {
			t.Error(pc)
		}
	}
	if len(Goes([]api.Instr{nop, jump(9)}, 0)) != 0 || len(Goes([]api.Instr{nop, many(1)}, 0)) != 0 || len(Goes(nil, 0)) != 0 {
		t.Error("not whole as far as jumps go")
	}
	if got := Goes([]api.Instr{many(least), nop}, 0); !slices.Equal(got, []int{1}) {
		t.Error(got)
	}
}

func TestMet(t *testing.T) {
	rows := []struct {
		l    []api.Instr
		want []bool
	}{
		{nil, nil}, {[]api.Instr{nop}, nil}, {[]api.Instr{ret}, []bool{true}}, {[]api.Instr{jump(2), nop, ret}, []bool{true, false, true}},
		{[]api.Instr{jump(0), nop}, []bool{true, false}}, {[]api.Instr{falls(0), nop}, nil}, {[]api.Instr{ret, jump(7)}, nil},
		{[]api.Instr{many(1), jump(3), ret, ret}, []bool{true, false, true, true}},
	}
	for i, r := range rows {
		if got := Met(r.l); !slices.Equal(got, r.want) {
			t.Error(i, got)
		}
		if (len(Nodes(r.l)) == 0) != (r.want == nil) {
			t.Error("nodes", i)
		}
	}
}

func TestNodes(t *testing.T) {
	rows := []struct {
		l    []api.Instr
		want []api.Node
	}{
		{[]api.Instr{falls(2), nop, ret}, []api.Node{{From: 0, To: 1, Next: []int{1, 2}}, {From: 1, To: 2, Next: []int{2}}, {From: 2, To: 3}}},
		{[]api.Instr{nop, nop, ret, nop}, []api.Node{{From: 0, To: 3}}},
		{[]api.Instr{nop, jump(1)}, []api.Node{{From: 0, To: 1, Next: []int{1}}, {From: 1, To: 2, Next: []int{1}}}},
		{[]api.Instr{jump(2), jump(1), nop, ret}, []api.Node{{From: 0, To: 1, Next: []int{1}}, {From: 2, To: 4}}},
		{[]api.Instr{many(3), jump(5), jump(4), jump(5), ret, ret}, []api.Node{{From: 0, To: 1, Next: []int{2, 1, 2, 1}}, {From: 4, To: 5}, {From: 5, To: 6}}},
		{[]api.Instr{falls(1), ret}, []api.Node{{From: 0, To: 1, Next: []int{1, 1}}, {From: 1, To: 2}}},
	}
	for i, r := range rows {
		got := Nodes(r.l)
		if !reflect.DeepEqual(got, r.want) {
			t.Error(i, got)
		}
		next := Next(got)
		for k, n := range got {
			if !slices.Equal(next[k], n.Next) {
				t.Error("next", i, k)
			}
			if len(next[k]) > 0 {
				next[k][0] = 99
				if n.Next[0] == 99 {
					t.Error("shared")
				}
			}
		}
	}
}

func TestPreds(t *testing.T) {
	got := Preds([][]int{{1, 2, 1}, {2, 9, 4, -1}, {0, 2}, nil})
	want := [][]int{{2}, {0}, {0, 1, 2}, nil}
	if !reflect.DeepEqual(got, want) || len(Preds(nil)) != 0 {
		t.Error(got)
	}
}

func TestEachPlaceInOneBlock(t *testing.T) {
	for seed := 1; seed < 400; seed++ {
		x := uint32(seed)
		pick := func(n int) int { x = x*1664525 + 1013904223; return int(x>>16) % n }
		l := make([]api.Instr, 12)
		for i := range l {
			l[i] = []api.Instr{nop, jump(pick(13)), falls(pick(12)), many(pick(3)), ret, nop, jump(pick(12))}[pick(7)]
		}
		l = append(l, ret)
		met, nodes := Met(l), Nodes(l)
		if met == nil {
			continue
		}
		in := make([]int, len(l))
		for _, n := range nodes {
			for pc := n.From; pc < n.To; pc++ {
				in[pc]++
				if next := goes(l, pc); pc < n.To-1 && !slices.Equal(next, []int{pc + 1}) {
					t.Error("inside", seed, pc)
				}
			}
		}
		for pc, b := range met {
			if b && in[pc] != 1 || !b && in[pc] != 0 {
				t.Error(seed, pc, in[pc])
			}
		}
	}
}
