package tab

import (
	"bytes"
	"slices"
	"strings"
	"testing"

	"ladderback/api"
)

const least, most = -1 << 63, 1<<63 - 1

func TestExamples(t *testing.T) {
	if b, ok := PutBlocks([]api.Block{{Name: "a", Kind: api.Ton}}); !ok || !bytes.Equal(b, []byte{1, 0, 1, 97, 1}) {
		t.Error(b)
	}
	if b, ok := PutConsts([]api.Const{{T: 2, V: -2}}); !ok || !bytes.Equal(b, []byte{1, 0, 2, 254, 255, 255, 255, 255, 255, 255, 255}) {
		t.Error(b)
	}
	if b, ok := PutVars([]api.Var{{Name: "xy", T: 1, N: 2, Area: 3, Init: 256}}); !ok || !bytes.Equal(b, []byte{1, 0, 2, 'x', 'y', 1, 2, 3, 0, 1, 0, 0, 0, 0, 0, 0}) {
		t.Error(b)
	}
	for _, b := range [][]byte{first(PutConsts(nil)), first(PutVars(nil)), first(PutBlocks(nil))} {
		if !bytes.Equal(b, []byte{0, 0}) {
			t.Error("empty")
		}
	}
}

func first(b []byte, ok bool) []byte { return b }

func TestFits(t *testing.T) {
	long := strings.Repeat("n", 255)
	for _, n := range []int{-1, 256, least, most} {
		_, a := PutConsts([]api.Const{{T: n}})
		_, b := PutVars([]api.Var{{T: n}})
		_, c := PutVars([]api.Var{{N: n}})
		_, d := PutVars([]api.Var{{Area: n}})
		_, e := PutBlocks([]api.Block{{Name: "ok"}, {Kind: n}})
		if a || b || c || d || e {
			t.Error(n)
		}
	}
	_, a := PutVars([]api.Var{{Name: long + "n"}})
	_, b := PutBlocks([]api.Block{{Name: long + "n"}})
	_, c := PutVars([]api.Var{{Name: long}})
	_, d := PutBlocks([]api.Block{{Name: long}})
	if a || b || !c || !d {
		t.Error("names")
	}
	_, a = PutConsts(make([]api.Const, api.MaxConsts))
	_, b = PutConsts(make([]api.Const, api.MaxConsts+1))
	_, c = PutVars(make([]api.Var, api.MaxVars))
	_, d = PutVars(make([]api.Var, api.MaxVars+1))
	_, e := PutBlocks(make([]api.Block, api.MaxBlocks))
	_, f := PutBlocks(make([]api.Block, api.MaxBlocks+1))
	if !a || b || !c || d || !e || f {
		t.Error("limits")
	}
}

func TestErrors(t *testing.T) {
	rows := []struct {
		b       []byte
		c, v, k api.Errno
	}{
		{nil, api.ErrShort, api.ErrShort, api.ErrShort},
		{[]byte{1}, api.ErrShort, api.ErrShort, api.ErrShort},
		{[]byte{0, 0}, api.OK, api.OK, api.OK},
		{[]byte{0, 0, 1}, api.ErrForm, api.ErrForm, api.ErrForm},
		{[]byte{1, 0}, api.ErrShort, api.ErrShort, api.ErrShort},
		{[]byte{1, 4}, api.ErrLimit, api.ErrLimit, api.ErrLimit},
		{[]byte{65, 0}, api.ErrShort, api.ErrLimit, api.ErrLimit},
		{[]byte{33, 0}, api.ErrShort, api.ErrShort, api.ErrLimit},
		{[]byte{1, 0, 9, 1, 2, 3, 4, 5, 6, 7, 8}, api.OK, api.ErrShort, api.ErrShort},
		{[]byte{1, 0, 0, 1, 2, 3, 4, 5, 6, 7, 8, 9, 10, 11}, api.ErrForm, api.OK, api.ErrForm},
	}
	for _, r := range rows {
		c, e1 := GetConsts(r.b)
		v, e2 := GetVars(r.b)
		k, e3 := GetBlocks(r.b)
		if e1 != r.c || e2 != r.v || e3 != r.k {
			t.Error(r, e1, e2, e3)
		}
		if e1 != api.OK && len(c) > 0 || e2 != api.OK && len(v) > 0 || e3 != api.OK && len(k) > 0 {
			t.Error("more than an error", r)
		}
		if back, ok := PutConsts(c); e1 == api.OK && (!ok || !bytes.Equal(back, r.b)) {
			t.Error("back", r)
		}
		if back, ok := PutVars(v); e2 == api.OK && (!ok || !bytes.Equal(back, r.b)) {
			t.Error("back", r)
		}
	}
}

func TestThereAndBack(t *testing.T) {
	c := make([]api.Const, api.MaxConsts)
	for i := range c {
		c[i] = api.Const{T: i & 255, V: (i - 500) * 987654321987}
	}
	c[0].V, c[1].V = least, most
	b, _ := PutConsts(c)
	if got, e := GetConsts(b); e != api.OK || !slices.Equal(got, c) {
		t.Error("consts")
	}
	v := []api.Var{{Name: "", T: 255, N: 0, Area: 255, Init: least}, {Name: strings.Repeat("z", 255), T: 1, N: 255, Init: most}, {Name: "\x00\xff"}}
	b, _ = PutVars(v)
	if got, e := GetVars(b); e != api.OK || !slices.Equal(got, v) {
		t.Error("vars")
	}
	for n := range b {
		if _, e := GetVars(b[:n]); e != api.ErrShort {
			t.Error("cut", n)
		}
	}
	k := []api.Block{{Name: "t", Kind: 255}, {Name: "", Kind: 0}, {Name: "uv", Kind: 3}}
	b, _ = PutBlocks(k)
	if got, e := GetBlocks(b); e != api.OK || !slices.Equal(got, k) {
		t.Error("blocks")
	}
}
