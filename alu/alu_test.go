package alu

import (
	"strings"
	"testing"

	"ladderback/api"
	"ladderback/kind"
)

const least, most = -1 << 63, 1<<63 - 1

// table has, for each operation from OpAdd on, the types with which it goes.
const table = "IDT IDT ID ID ID IDT BWX BWX BWX BWX WX WX BIDWXT BIDWXT IDWXT IDWXT IDWXT IDWXT"

func TestGoes(t *testing.T) {
	rows := strings.Fields(table)
	letters := " BIDWXT "
	for op := -1; op < 60; op++ {
		for k := 0; k < 8; k++ {
			want := false
			if op >= api.OpAdd && op <= api.OpGe && k >= 1 && k <= 6 {
				want = strings.Contains(rows[op-api.OpAdd], letters[k:k+1])
			}
			if Goes(op, k) != want {
				t.Error(op, k)
			}
			result := 0
			if want {
				result = k
				if op >= api.OpEq {
					result = api.Bool
				}
			}
			if Result(op, k) != result {
				t.Error("result", op, k)
			}
		}
		want := op >= api.OpAdd && op <= api.OpGe && op != api.OpNeg && op != api.OpNot
		if Binary(op) != want {
			t.Error("binary", op)
		}
	}
	if Goes(least, 1) || Goes(most, 1) || Goes(api.OpEq, least) || Goes(api.OpEq, most) {
		t.Error("far")
	}
}

func TestUn(t *testing.T) {
	rows := [][4]int{{api.OpNeg, api.Int, 5, -5}, {api.OpNeg, api.Int, -32768, -32768}, {api.OpNeg, api.Time, least, least}, {api.OpNot, api.Bool, 0, 1}, {api.OpNot, api.Bool, 1, 0}, {api.OpNot, api.Word, 1, 65534}, {api.OpNot, api.Dword, 0, 1<<32 - 1}}
	for _, r := range rows {
		if v, ok := Un(r[0], r[1], r[2]); v != r[3] || !ok {
			t.Error(r, v)
		}
	}
	for _, r := range [][3]int{{api.OpNeg, api.Word, 1}, {api.OpNot, api.Int, 1}, {api.OpAdd, api.Int, 1}, {api.OpNot, api.Bool, 2}, {api.OpNeg, 0, 0}, {api.OpNeg, api.Int, 32768}} {
		if v, ok := Un(r[0], r[1], r[2]); v != 0 || ok {
			t.Error(r)
		}
	}
}

func TestBin(t *testing.T) {
	rows := [][6]int{
		{api.OpAdd, api.Int, 32767, 1, -32768, 0}, {api.OpSub, api.Dint, -1 << 31, 1, 1<<31 - 1, 0}, {api.OpMul, api.Int, 300, 300, 24464, 0},
		{api.OpDiv, api.Int, -32768, -1, -32768, 0}, {api.OpDiv, api.Int, -7, 2, -3, 0}, {api.OpMod, api.Int, -7, 3, -1, 0}, {api.OpMod, api.Int, 7, -3, 1, 0},
		{api.OpDiv, api.Int, 5, 0, 0, api.FaultZero}, {api.OpMod, api.Dint, 5, 0, 0, api.FaultZero},
		{api.OpAnd, api.Word, 12, 10, 8, 0}, {api.OpOr, api.Bool, 1, 0, 1, 0}, {api.OpXor, api.Dword, 12, 10, 6, 0},
		{api.OpShl, api.Word, 1, 15, 32768, 0}, {api.OpShl, api.Word, 1, 16, 0, 0}, {api.OpShl, api.Word, 3, -1, 3, 0}, {api.OpShr, api.Dword, 1<<32 - 1, 31, 1, 0}, {api.OpShr, api.Dword, 1<<32 - 1, 32767, 0, 0}, {api.OpShr, api.Word, 8, -32768, 8, 0}, {api.OpShl, api.Dword, 1, 32767, 0, 0},
		{api.OpAdd, api.Time, most, 1, least, 0}, {api.OpLt, api.Time, least, most, 1, 0}, {api.OpGe, api.Word, 65535, 0, 1, 0}, {api.OpEq, api.Bool, 1, 1, 1, 0}, {api.OpLe, api.Int, 3, 2, 0, 0}, {api.OpGt, api.Int, 3, 2, 1, 0}, {api.OpNe, api.Time, 3, 3, 0, 0},
	}
	for _, r := range rows {
		if v, f, ok := Bin(r[0], r[1], r[2], r[3]); v != r[4] || f != r[5] || !ok {
			t.Error(r, v, f, ok)
		}
	}
	for _, r := range [][4]int{{api.OpNeg, api.Int, 1, 1}, {api.OpNot, api.Bool, 1, 1}, {api.OpAdd, api.Word, 1, 1}, {api.OpAdd, api.Int, 32768, 0}, {api.OpAdd, api.Int, 0, 32768}, {api.OpShl, api.Word, 1, 40000}, {api.OpDiv, api.Int, 40000, 0}, {api.OpConv, api.Int, 1, 1}, {api.OpDiv, api.Time, 4, 2}} {
		if v, f, ok := Bin(r[0], r[1], r[2], r[3]); v != 0 || f != 0 || ok {
			t.Error(r)
		}
	}
}

func TestConv(t *testing.T) {
	if v, ok := Conv(api.Int, api.Word, -1); v != 65535 || !ok {
		t.Error("conv")
	}
	if v, ok := Conv(api.Time, api.Bool, 256); v != 1 || !ok {
		t.Error("bool")
	}
	for _, r := range [][3]int{{api.Int, 0, 1}, {7, api.Int, 1}, {api.Int, api.Int, 40000}} {
		if v, ok := Conv(r[0], r[1], r[2]); v != 0 || ok {
			t.Error(r)
		}
	}
}

func TestLaws(t *testing.T) {
	some := []int{0, 1, -1, 2, -3, 7, 100, 255, -32768, 32767, 65535, -1 << 31, 1<<31 - 1, 1<<32 - 1, least, most}
	bin := func(op, k, a, b int) int { v, _, _ := Bin(op, k, a, b); return v }
	un := func(op, k, a int) int { v, _ := Un(op, k, a); return v }
	for k := api.Bool; k <= api.Time; k++ {
		for _, a := range some {
			for _, b := range some {
				if !kind.In(k, a) || !kind.In(k, b) {
					continue
				}
				if Goes(api.OpDiv, k) && b != 0 && bin(api.OpAdd, k, bin(api.OpMul, k, bin(api.OpDiv, k, a, b), b), bin(api.OpMod, k, a, b)) != a {
					t.Error("quotient", k, a, b)
				}
				for _, pair := range [][2]int{{api.OpEq, api.OpNe}, {api.OpLt, api.OpGe}, {api.OpGt, api.OpLe}} {
					if Goes(pair[0], k) && bin(pair[0], k, a, b)+bin(pair[1], k, a, b) != 1 {
						t.Error("opposite", k, a, b)
					}
				}
				if Goes(api.OpAnd, k) && un(api.OpNot, k, bin(api.OpAnd, k, a, b)) != bin(api.OpOr, k, un(api.OpNot, k, a), un(api.OpNot, k, b)) {
					t.Error("de morgan", k, a, b)
				}
			}
		}
	}
}
