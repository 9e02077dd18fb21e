package ident

import (
	"slices"
	"strings"
	"testing"
)

const language = "and begin bool case continue dint do dword else exit fb for function if in input int local loop mem mod not of or out program project real repeat return rung shl shr then time until var while word xor"

func TestTaken(t *testing.T) {
	for _, w := range strings.Fields(language) {
		if !Taken(w) || !Taken("end_"+w) || Right(w) || Right("end_"+w) || Taken("end_end_"+w) {
			t.Error(w)
		}
	}
	for _, w := range []string{"s", "r", "true", "false", "p0", "l12", "p007", "l0"} {
		if !Taken(w) || Right(w) {
			t.Error(w)
		}
	}
	for _, w := range []string{"", "end_", "end_s", "end_true", "p", "l", "p1a", "q1", "AND", "ton", "end", "pl1", "p_1"} {
		if Taken(w) {
			t.Error(w)
		}
	}
}

func TestRight(t *testing.T) {
	for _, s := range []string{"a", "p", "l", "motor_1", "a234567890123456", "x_", "end_s"} {
		if !Right(s) {
			t.Error(s)
		}
	}
	for _, s := range []string{"", "1a", "_a", "A", "a b", "a2345678901234567", "aB", "ä", "a#"} {
		if Right(s) {
			t.Error(s)
		}
	}
}

func TestClean(t *testing.T) {
	rows := [][2]string{{"Motor 1", "v_motor_1"}, {"a", "a"}, {"", "v_"}, {"if", "v_if"}, {"abcdefghijklmnopq", "v_abcdefghijkl"}, {"p1", "v_p1"}, {"\x00\xff_9", "v____9"}, {"1", "v_1"}, {"AZaz@[`{", "v_azaz____"}, {"z", "z"}, {"Z0:/9", "v_z0__9"}}
	for _, r := range rows {
		if Clean(r[0]) != r[1] || !Right(r[1]) {
			t.Error(r, Clean(r[0]))
		}
	}
}

func TestUnique(t *testing.T) {
	rows := [][2][]string{
		{{"a", "a", "a_2"}, {"a", "a_3", "a_2"}},
		{{"a", "a", "a"}, {"a", "a_2", "a_3"}},
		{{"abcdefghijklm", "abcdefghijklm", "abcdefghijklx", "abcdefghijklx"}, {"abcdefghijklm", "abcdefghijkl_2", "abcdefghijklx", "abcdefghijkl_3"}},
		{{"if", "v_if", "IF"}, {"v_if", "v_if_2", "v_if_3"}},
		{{"a_2", "a", "a"}, {"a_2", "a", "a_3"}},
		{{}, {}},
	}
	for _, r := range rows {
		if got := Unique(r[0]); !slices.Equal(got, r[1]) {
			t.Error(r, got)
		}
	}
}

func TestUniqueMany(t *testing.T) {
	l := make([]string, 200)
	for i := range l {
		l[i] = []string{"same", "Same", "same_2", "abcdefghijklmnop", "x y"}[i%5]
	}
	got := Unique(l)
	met := map[string]int{}
	for _, s := range got {
		if !Right(s) || met[s] > 0 {
			t.Error(s)
		}
		met[s]++
	}
	if len(got) != 200 || !slices.Equal(Unique(got), got) {
		t.Error("names that are unlike stay")
	}
	if len(Unique(append(l, "z"))) != 0 {
		t.Error("more than 200")
	}
}
