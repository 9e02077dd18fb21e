package box

import (
	"bytes"
	"testing"

	"ladderback/api"
	"ladderback/crc"
	"ladderback/octet"
)

// sealed makes a container of what stands between the magic and the sum.
func sealed(body []byte) []byte {
	b := append([]byte("LBK1"), body...)
	return octet.Put(b, 4, int(crc.Of(b)))
}

var full = api.Prog{
	Consts: []api.Const{{T: 2, V: -5}, {T: 9, V: 7}},
	Vars:   []api.Var{{Name: "a", T: 1, N: 1, Area: 1}, {Name: "Q!", T: 2, N: 7, Area: 2, Init: -9}},
	Blocks: []api.Block{{Name: "t", Kind: 1}},
	Units:  []api.Unit{{Name: "main", Code: []api.Instr{{Op: api.OpRet}}}, {Name: "f", Params: []int{1}, Result: 2, Locals: []int{3}, Code: []api.Instr{{Op: api.OpNop}, {Op: api.OpRet}}}},
}

func TestEncode(t *testing.T) {
	b, ok := Encode(api.Prog{})
	if !ok || len(b) != 35 || !Fits(api.Prog{}) {
		t.Error("empty", len(b))
	}
	want := sealed([]byte{1, 2, 0, 0, 0, 0, 0, 2, 2, 0, 0, 0, 0, 0, 3, 2, 0, 0, 0, 0, 0, 4, 1, 0, 0, 0, 0})
	if !bytes.Equal(b, want) {
		t.Error(b)
	}
	b, ok = Encode(full)
	if got, e := Decode(b); !ok || e != api.OK || !Same(got, full) {
		t.Error(got, e)
	}
	wrong := []api.Prog{{Units: make([]api.Unit, api.MaxUnits+1)}, {Consts: []api.Const{{T: 256}}}, {Vars: []api.Var{{N: -1}}}, {Blocks: []api.Block{{Kind: 999}}}, {Units: []api.Unit{{Result: 256}}}}
	for i, p := range wrong {
		if b, ok := Encode(p); ok || len(b) > 0 || Fits(p) {
			t.Error(i)
		}
	}
	if p := (api.Prog{Units: make([]api.Unit, api.MaxUnits)}); !Fits(p) {
		t.Error("units")
	}
}

func TestEveryByte(t *testing.T) {
	b, _ := Encode(full)
	for i := range b {
		for _, x := range []byte{1, 128, 255} {
			b[i] ^= x
			got, e := Decode(b)
			want := api.ErrSum
			if i < 4 {
				want = api.ErrMagic
			}
			if e != want || !Same(got, api.Prog{}) {
				t.Error(i, x, e)
			}
			b[i] ^= x
		}
	}
	for n := range b {
		want := api.ErrSum
		if n < 8 {
			want = api.ErrShort
		}
		if _, e := Decode(b[:n]); e != want {
			t.Error("cut", n, e)
		}
	}
}

func TestErrors(t *testing.T) {
	a := []byte{1, 2, 0, 0, 0, 0, 0}
	v := []byte{2, 2, 0, 0, 0, 0, 0}
	k := []byte{3, 2, 0, 0, 0, 0, 0}
	u := []byte{4, 1, 0, 0, 0, 0}
	ret := []byte{0, 0, 0, 0, 0, 1, 0, 34, 0, 0, 0, 0}
	join := func(l ...[]byte) []byte { return bytes.Join(l, nil) }
	rows := []struct {
		body []byte
		e    api.Errno
	}{
		{nil, api.ErrShort},
		{[]byte{1, 0, 0, 0}, api.ErrShort},
		{[]byte{2, 0, 0, 0}, api.ErrShort},
		{v, api.ErrForm},
		{[]byte{1, 3, 0, 0, 0, 0, 0}, api.ErrShort},
		{[]byte{1, 255, 255, 255, 255, 0, 0}, api.ErrShort},
		{[]byte{1, 1, 0, 0, 0, 0}, api.ErrShort},
		{[]byte{1, 3, 0, 0, 0, 0, 0, 0}, api.ErrForm},
		{[]byte{1, 2, 0, 0, 0, 255, 255}, api.ErrLimit},
		{join(a, a), api.ErrForm},
		{join(a, []byte{9, 0, 0, 0, 0}), api.ErrForm},
		{join(a, []byte{9, 0, 0, 0}), api.ErrShort},
		{join(a, []byte{2, 2, 0, 0, 0, 65, 0}), api.ErrLimit},
		{join(a, v, k), api.ErrShort},
		{join(a, v, k, []byte{4, 0, 0, 0, 0}), api.ErrShort},
		{join(a, v, k, []byte{4, 1, 0, 0, 0, 9}), api.ErrLimit},
		{join(a, v, k, []byte{4, 1, 0, 0, 0, 1}), api.ErrShort},
		{join(a, v, k, []byte{4, 4, 0, 0, 0, 1, 0, 0, 0}), api.ErrShort},
		{join(a, v, k, []byte{4, 17, 0, 0, 0, 1, 13, 0, 0, 0}, ret), api.ErrShort},
		{join(a, v, k, []byte{4, 17, 0, 0, 0, 1, 12, 0, 0, 0}, ret), api.OK},
		{join(a, v, k, []byte{4, 18, 0, 0, 0, 1, 12, 0, 0, 0}, ret, []byte{1}), api.ErrForm},
		{join(a, v, k, []byte{4, 18, 0, 0, 0, 1, 13, 0, 0, 0}, ret, []byte{1}), api.ErrForm},
		{join(a, v, k, []byte{4, 17, 0, 0, 0, 1, 12, 0, 0, 0}, ret[:7], []byte{48, 0, 0, 0, 0}), api.ErrReal},
		{join(a, v, k, []byte{4, 17, 0, 0, 0, 1, 12, 0, 0, 0}, ret[:7], []byte{34, 0, 0, 0, 1}), api.ErrOp},
		{join(a, v, k, []byte{4, 2, 0, 0, 0, 0, 0}), api.ErrForm},
		{join(a, v, k, u, []byte{0}), api.ErrForm},
		{join(a, v, k, u), api.OK},
	}
	for i, r := range rows {
		b := sealed(r.body)
		p, e := Decode(b)
		if e != r.e || e != api.OK && !Same(p, api.Prog{}) {
			t.Error(i, r, e)
		}
		if back, ok := Encode(p); e == api.OK && (!ok || !bytes.Equal(back, b)) {
			t.Error("back", i)
		}
	}
	if _, e := Decode(make([]byte, api.MaxBytes+1)); e != api.ErrLimit {
		t.Error("limit")
	}
	if _, e := Decode(make([]byte, api.MaxBytes)); e != api.ErrMagic {
		t.Error("magic")
	}
	if _, e := Decode([]byte("LBK1")); e != api.ErrShort {
		t.Error("short ahead of sum")
	}
	if _, e := Decode([]byte("XBK1")); e != api.ErrShort {
		t.Error("short ahead of magic")
	}
}

func TestSame(t *testing.T) {
	if !Same(full, full) || !Same(api.Prog{}, api.Prog{Consts: []api.Const{}, Units: []api.Unit{}}) {
		t.Error("same")
	}
	others := []api.Prog{full, full, full, full}
	others[0].Consts = nil
	others[1].Vars = full.Vars[:1]
	others[2].Blocks = []api.Block{{Name: "t", Kind: 2}}
	others[3].Units = []api.Unit{full.Units[0], full.Units[0]}
	for i, p := range others {
		if Same(p, full) || Same(full, p) {
			t.Error(i)
		}
	}
}
