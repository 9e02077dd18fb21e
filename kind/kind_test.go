package kind

import (
	"testing"

	"ladderback/api"
)

const least, most = -1 << 63, 1<<63 - 1

func TestNamesAndFacts(t *testing.T) {
	rows := []struct {
		t      int
		name   string
		bits   int
		signed bool
	}{{api.Bool, "BOOL", 1, false}, {api.Int, "INT", 16, true}, {api.Dint, "DINT", 32, true}, {api.Word, "WORD", 16, false}, {api.Dword, "DWORD", 32, false}, {api.Time, "TIME", 64, true}}
	for _, r := range rows {
		if !Right(r.t) || Name(r.t) != r.name || Find(r.name) != r.t || Bits(r.t) != r.bits || Signed(r.t) != r.signed {
			t.Error(r)
		}
	}
	for _, x := range []int{0, 7, -1, least, most} {
		if Right(x) || Name(x) != "" || Bits(x) != 0 || Signed(x) || In(x, 0) || Wrap(x, 9) != 0 {
			t.Error(x)
		}
	}
	for _, s := range []string{"", "bool", "INTS", "INT ", "REAL"} {
		if Find(s) != 0 {
			t.Error(s)
		}
	}
}

func TestEdges(t *testing.T) {
	rows := []struct{ t, low, high int }{{api.Bool, 0, 1}, {api.Int, -32768, 32767}, {api.Dint, -1 << 31, 1<<31 - 1}, {api.Word, 0, 65535}, {api.Dword, 0, 1<<32 - 1}, {api.Time, least, most}}
	for _, r := range rows {
		if !In(r.t, r.low) || !In(r.t, r.high) {
			t.Error("in", r)
		}
		if r.t != api.Time && (In(r.t, r.low-1) || In(r.t, r.high+1)) {
			t.Error("beyond", r)
		}
		if r.t != api.Time && r.t != api.Bool && (Wrap(r.t, r.high+1) != r.low || Wrap(r.t, r.low-1) != r.high) {
			t.Error("round", r)
		}
	}
	if Wrap(api.Int, 40000) != -25536 || Wrap(api.Word, -1) != 65535 || Wrap(api.Bool, 2) != 1 || Wrap(api.Bool, least) != 1 {
		t.Error("wrap")
	}
}

func TestWrapKeepsSums(t *testing.T) {
	some := []int{0, 1, -1, 7, 300, -40000, 70000, 1 << 31, -1 << 33, 123456789012, least, most}
	for k := api.Bool; k <= api.Time; k++ {
		for _, a := range some {
			w := Wrap(k, a)
			if !In(k, w) || Wrap(k, w) != w {
				t.Error(k, a)
			}
			for _, b := range some {
				v := Wrap(k, b)
				if k != api.Bool && (Wrap(k, w+v) != Wrap(k, a+b) || Wrap(k, w*v) != Wrap(k, a*b)) {
					t.Error(k, a, b)
				}
			}
		}
	}
}
