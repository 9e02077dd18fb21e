package state

import (
	"slices"
	"testing"

	"ladderback/api"
)

var vars = []api.Var{{T: api.Int, N: 3, Init: 7}, {T: api.Bool, N: 1, Area: api.In, Init: 1}, {T: api.Word, N: 2, Area: api.Out}}
var blocks = []api.Block{{Kind: 1}, {Kind: 4}}

func TestNew(t *testing.T) {
	s := New(vars, blocks)
	if !slices.Equal(s.Vars[0], []int{7, 7, 7}) || !slices.Equal(s.Vars[1], []int{1}) || len(s.Blocks) != 2 || s.Blocks[1] != (api.Inst{}) || s.Now != 0 || s.Fault != 0 || !Fits(vars, blocks, s) {
		t.Error(s)
	}
	s = New([]api.Var{{N: -5}, {N: 0}, {N: 99, Init: 2}}, nil)
	if len(s.Vars[0]) != 0 || len(s.Vars[1]) != 0 || len(s.Vars[2]) != api.MaxItems || s.Vars[2][15] != 2 {
		t.Error(s)
	}
}

func TestFits(t *testing.T) {
	change := []func(*api.State){
		func(s *api.State) { s.Vars = s.Vars[:2] }, func(s *api.State) { s.Vars = append(s.Vars, nil) }, func(s *api.State) { s.Blocks = s.Blocks[:1] }, func(s *api.State) { s.Vars[0] = s.Vars[0][:2] },
		func(s *api.State) { s.Vars[0][1] = 40000 }, func(s *api.State) { s.Vars[1][0] = 2 }, func(s *api.State) { s.Now = -1 }, func(s *api.State) { s.Now = api.MaxNow + 1 }, func(s *api.State) { s.Fault = 4 }, func(s *api.State) { s.Fault = -1 },
	}
	for i, f := range change {
		s := New(vars, blocks)
		f(&s)
		if Fits(vars, blocks, s) || Same(s, New(vars, blocks)) || Same(New(vars, blocks), s) {
			t.Error(i)
		}
	}
	s := New(vars, blocks)
	s.Now, s.Fault, s.Blocks[0].F[3] = api.MaxNow, 3, -1<<63
	if !Fits(vars, blocks, s) || !Fits(nil, nil, api.State{}) || Fits([]api.Var{{T: 0, N: 1}}, nil, api.State{Vars: [][]int{{0}}}) {
		t.Error("fits")
	}
}

func TestCloneAndSame(t *testing.T) {
	s := New(vars, blocks)
	c := Clone(s)
	if !Same(s, c) || !Same(api.State{}, api.State{Vars: [][]int{}, Blocks: []api.Inst{}}) || !Same(api.State{Vars: [][]int{nil}}, api.State{Vars: [][]int{{}}}) {
		t.Error("same")
	}
	c.Vars[0][0], c.Blocks[0].F[9] = 1, 1
	if s.Vars[0][0] != 7 || s.Blocks[0].F[9] != 0 || Same(s, c) {
		t.Error("apart")
	}
	c = Clone(s)
	c.Blocks[1].F[9] = 1
	if Same(s, c) {
		t.Error("blocks")
	}
}

func TestReadWrite(t *testing.T) {
	s := New(vars, blocks)
	for _, r := range [][2]int{{-1, 0}, {3, 0}, {0, 3}, {0, -1}, {1 << 62, 0}} {
		if x, ok := Read(s, r[0], r[1]); x != 0 || ok {
			t.Error(r)
		}
		if c, ok := Write(s, r[0], r[1], 5); ok || !Same(c, s) {
			t.Error(r)
		}
	}
	c, ok := Write(s, 0, 1, 99)
	if x, there := Read(c, 0, 1); !ok || !there || x != 99 || s.Vars[0][1] != 7 {
		t.Error("write")
	}
	if x, ok := Read(c, 0, 0); x != 7 || !ok {
		t.Error("read")
	}
	c.Vars[0][1] = 7
	if !Same(c, s) {
		t.Error("something else changed")
	}
}

func TestArea(t *testing.T) {
	s := New(vars, blocks)
	s.Vars[2][1] = 4
	if !slices.Equal(Area(vars, s, api.Mem), []int{7, 7, 7}) || !slices.Equal(Area(vars, s, api.Out), []int{0, 4}) || !slices.Equal(Area(vars, s, api.In), []int{1}) || len(Area(vars, s, 9)) != 0 {
		t.Error("area")
	}
	s.Vars = s.Vars[:1]
	if len(Area(vars, s, api.In)) != 0 || len(Area(vars, s, api.Out)) != 0 || !slices.Equal(Area(append(vars, vars[0]), New(append(vars, vars[0]), nil), api.Mem), []int{7, 7, 7, 7, 7, 7}) {
		t.Error("as far as the state has them")
	}
}
