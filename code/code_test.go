package code

import (
	"bytes"
	"slices"
	"testing"

	"ladderback/api"
	"ladderback/op"
)

func TestEncode(t *testing.T) {
	if b, ok := Encode([]api.Instr{{Op: api.OpSet, A: 2, B: 258}}); !ok || !bytes.Equal(b, []byte{35, 2, 0, 2, 1}) {
		t.Error(b)
	}
	if b, ok := Encode(nil); !ok || len(b) != 0 {
		t.Error("none")
	}
	for _, i := range []api.Instr{{Op: 38}, {Op: 48}, {Op: -1}, {Op: api.OpRet, A: 1}, {Op: api.OpLoad, A: 65536}, {Op: api.OpLoad, A: -1}, {Op: 256}} {
		if b, ok := Encode([]api.Instr{{Op: api.OpRet}, i}); ok || len(b) != 0 {
			t.Error(i)
		}
	}
}

func TestDecode(t *testing.T) {
	rows := []struct {
		b     []byte
		place int
		e     api.Errno
	}{
		{nil, 0, api.OK},
		{[]byte{34, 0, 0, 0, 0}, 0, api.OK},
		{[]byte{34}, 0, api.ErrShort},
		{[]byte{34, 0, 0, 0, 0, 48, 0, 0, 0}, 1, api.ErrShort},
		{[]byte{34, 0, 0, 0, 0, 48, 1, 2, 3, 4}, 1, api.ErrReal},
		{[]byte{34, 0, 0, 0, 0, 55, 0, 0, 0, 0}, 1, api.ErrReal},
		{[]byte{34, 0, 0, 0, 0, 56, 0, 0, 0, 0}, 1, api.ErrOp},
		{[]byte{34, 1, 0, 0, 0, 48, 0, 0, 0, 0}, 0, api.ErrOp},
		{[]byte{38, 0, 0, 0, 0, 1}, 0, api.ErrOp},
		{[]byte{34, 0, 0, 1, 0}, 0, api.ErrOp},
		{[]byte{2, 255, 255, 0, 0, 2, 0, 0, 0, 1}, 1, api.ErrOp},
	}
	for _, r := range rows {
		l, place, e := Decode(r.b)
		if place != r.place || e != r.e || e != api.OK && len(l) != 0 {
			t.Error(r, l, place, e)
		}
		if back, ok := Encode(l); e == api.OK && (!ok || !bytes.Equal(back, r.b)) {
			t.Error("back", r)
		}
	}
}

func TestThereAndBack(t *testing.T) {
	var l []api.Instr
	for x := 0; x < 40; x++ {
		for _, n := range []int{0, 1, 256, 65535} {
			for _, m := range []int{0, 2, 65280} {
				if i := (api.Instr{Op: x, A: n, B: m}); op.Right(i) {
					l = append(l, i)
				}
			}
		}
	}
	b, ok := Encode(l)
	got, place, e := Decode(b)
	if !ok || place != 0 || e != api.OK || !slices.Equal(got, l) || len(b) != Size*len(l) {
		t.Error("back")
	}
}

func TestText(t *testing.T) {
	if s := Text([]api.Instr{{Op: api.OpSet, A: 2, B: 1}, {Op: 99}, {Op: api.OpRet}}); s != "0: set 2 1\n1: ?\n2: ret\n" {
		t.Error(s)
	}
	if Text(nil) != "" {
		t.Error("none")
	}
}
