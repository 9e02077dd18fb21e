package op

import (
	"strings"
	"testing"

	"ladderback/api"
)

const least, most = -1 << 63, 1<<63 - 1

const language = "nop const load store get put item keep add sub mul div mod neg and or xor not shl shr eq ne lt le gt ge conv dup pop swap jump false switch call ret set run out"

// facts has for each operation the letters of what it has at A and B.
const facts = "NN C. V. V. S. S. V. V. T. T. T. T. T. T. T. T. T. T. T. T. T. T. T. T. T. T. TT .. .. .. JN JN #N U. .. BF B. BF"

func TestFacts(t *testing.T) {
	words, rows := strings.Fields(language), strings.Fields(facts)
	code := map[byte]int{'.': None, 'C': Constant, 'V': Variable, 'S': Slot, 'T': Type, 'J': Target, '#': Count, 'U': Unit, 'B': Block, 'F': Field, 'N': Note}
	for i, w := range words {
		a, b := Shape(i)
		if !Is(i) || Word(i) != w || a != code[rows[i][0]] || b != code[rows[i][1]] {
			t.Error(w, a, b)
		}
		if got, ok := Find(w); got != i || !ok {
			t.Error("find", w)
		}
	}
	for _, x := range []int{-1, 38, 47, 48, 55, 56, least, most} {
		if a, b := Shape(x); Is(x) || Word(x) != "" || a != 0 || b != 0 || Real(x) != (x == 48 || x == 55) || Right(api.Instr{Op: x}) {
			t.Error(x)
		}
	}
	for _, s := range []string{"", "Nop", "real"} {
		if x, ok := Find(s); x != 0 || ok {
			t.Error(s)
		}
	}
}

func TestNumbers(t *testing.T) {
	for i, n := range []int{None, Constant, Variable, Slot, Type, Target, Count, Unit, Block, Field, Note} {
		if n != i {
			t.Error(i, n)
		}
	}
	if Most != 65535 {
		t.Error("most")
	}
}

func TestRight(t *testing.T) {
	for x := 0; x <= api.OpOut; x++ {
		a, b := Shape(x)
		for _, n := range []int{-1, 0, 1, Most, Most + 1, least, most} {
			fine := n >= 0 && n <= Most
			if Right(api.Instr{Op: x, A: n}) != (n == 0 || a != None && fine) || Right(api.Instr{Op: x, B: n}) != (n == 0 || b != None && fine) {
				t.Error(x, n)
			}
		}
	}
}

func TestLines(t *testing.T) {
	if Line(api.Instr{Op: api.OpSet, A: 2, B: 1}) != "set 2 1" || Line(api.Instr{Op: api.OpRet, B: 1}) != "" || Line(api.Instr{Op: api.OpRet}) != "ret" || Line(api.Instr{Op: 99}) != "" {
		t.Error("examples")
	}
	for x := 0; x <= api.OpOut; x++ {
		for _, n := range []int{0, 7, Most} {
			for _, m := range []int{0, 3, Most} {
				i := api.Instr{Op: x, A: n, B: m}
				s := Line(i)
				got, ok := Read(s)
				if Right(i) != ok || ok && got != i {
					t.Error(i, s, got, ok)
				}
			}
		}
	}
	for _, s := range []string{"", " ", "nop", "nop 1", "ret 0", "ret ", " ret", "set 2", "set 2 1 ", "set 2  1", "set 02 1", "set 2 1 3", "set -1 1", "set 65536 1", "load x", "load 1 1", "REAL", "set\t2 1"} {
		if i, ok := Read(s); ok || i != (api.Instr{}) {
			t.Error(s)
		}
	}
}
