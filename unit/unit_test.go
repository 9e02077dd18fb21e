package unit

import (
	"bytes"
	"slices"
	"strings"
	"testing"

	"ladderback/api"
)

func ret(n int) []api.Instr {
	l := make([]api.Instr, n)
	for i := range l {
		l[i].Op = api.OpRet
	}
	return l
}

var full = api.Unit{Name: "motor", Params: []int{1, 2, 255}, Result: 3, Locals: []int{4, 0, 6}, Code: []api.Instr{{Op: api.OpSet, A: 1, B: 2}, {Op: api.OpRet}}}

func TestPut(t *testing.T) {
	if b, ok := Put(api.Unit{Code: ret(1)}); !ok || !bytes.Equal(b, []byte{0, 0, 0, 0, 0, 1, 0, 34, 0, 0, 0, 0}) {
		t.Error(b)
	}
	want := []byte{5, 'm', 'o', 't', 'o', 'r', 3, 1, 2, 255, 3, 3, 0, 4, 0, 6, 2, 0, 35, 1, 0, 2, 0, 34, 0, 0, 0, 0}
	if b, ok := Put(full); !ok || !bytes.Equal(b, want) {
		t.Error(b)
	}
	if got, e := Get(want); e != api.OK || !Same(got, full) {
		t.Error(got, e)
	}
	for n := range want {
		if got, e := Get(want[:n]); e != api.ErrShort || !Same(got, api.Unit{}) {
			t.Error("cut", n, e)
		}
	}
}

func TestFits(t *testing.T) {
	fine := []api.Unit{{}, {Name: strings.Repeat("x", 255)}, {Params: make([]int, api.MaxParams)}, {Locals: make([]int, api.MaxSlots)}, {Code: ret(api.MaxCode)}, {Result: 255}, full}
	wrong := []api.Unit{{Name: strings.Repeat("x", 256)}, {Params: make([]int, api.MaxParams+1)}, {Locals: make([]int, api.MaxSlots+1)}, {Code: ret(api.MaxCode + 1)}, {Result: 256}, {Result: -1}, {Params: []int{256}}, {Locals: []int{-1}}, {Code: []api.Instr{{Op: 38}}}, {Code: []api.Instr{{Op: api.OpRet, A: 1}}}}
	for _, u := range fine {
		b, ok := Put(u)
		got, e := Get(b)
		if !Fits(u) || !ok || e != api.OK || !Same(got, u) {
			t.Error(u.Name, e)
		}
	}
	for i, u := range wrong {
		if b, ok := Put(u); ok || len(b) > 0 || Fits(u) {
			t.Error(i)
		}
	}
}

func TestGetErrors(t *testing.T) {
	rows := []struct {
		b []byte
		e api.Errno
	}{
		{[]byte{0, 9}, api.ErrLimit},
		{[]byte{0, 8}, api.ErrShort},
		{[]byte{0, 0, 0, 1, 4}, api.ErrLimit},
		{[]byte{0, 0, 0, 0, 4}, api.ErrShort},
		{[]byte{0, 0, 0, 0, 0, 1, 64}, api.ErrLimit},
		{[]byte{0, 0, 0, 0, 0, 0, 64}, api.ErrShort},
		{[]byte{0, 0, 0, 0, 0, 2, 0, 48, 0, 0, 0, 0, 1}, api.ErrReal},
		{[]byte{0, 0, 0, 0, 0, 2, 0, 48, 0, 0, 0}, api.ErrShort},
		{[]byte{0, 0, 0, 0, 0, 2, 0, 99, 0, 0, 0, 0}, api.ErrOp},
		{[]byte{0, 0, 0, 0, 0, 2, 0, 34, 0, 0, 0, 0}, api.ErrShort},
		{[]byte{0, 0, 0, 0, 0, 1, 0, 34, 0, 0, 0, 0, 7}, api.ErrForm},
		{[]byte{0, 0, 0, 0, 0, 0, 0}, api.OK},
	}
	for _, r := range rows {
		if got, e := Get(r.b); e != r.e || !Same(got, api.Unit{}) {
			t.Error(r, e)
		}
	}
}

func TestSlots(t *testing.T) {
	if got := Slots(full); !slices.Equal(got, []int{1, 2, 255, 3, 4, 0, 6}) {
		t.Error(got)
	}
	u := api.Unit{Params: make([]int, 1, 9), Locals: []int{5}}
	if got := Slots(u); !slices.Equal(got, []int{0, 5}) || u.Params[:2][1] != 0 {
		t.Error(got)
	}
	if len(Slots(api.Unit{})) != 0 {
		t.Error("none")
	}
}

func TestSame(t *testing.T) {
	if !Same(api.Unit{Params: []int{}}, api.Unit{}) || !Same(full, full) {
		t.Error("same")
	}
	others := []api.Unit{full, full, full, full, full}
	others[0].Name = "x"
	others[1].Params = []int{1, 2}
	others[2].Result = 0
	others[3].Locals = []int{4, 0, 7}
	others[4].Code = ret(2)
	for i, u := range others {
		if Same(u, full) || Same(full, u) {
			t.Error(i)
		}
	}
}
