package lex

import (
	"slices"
	"strings"
	"testing"

	"ladderback/api"
	"ladderback/sample"
)

func TestSplit(t *testing.T) {
	rows := []struct{ s, want string }{
		{"", ""}, {" \t\r\n", ""}, {"x:=INT#-5;", "x := INT#-5 ;"}, {"a<=b>=c<>d<e>f=g", "a <= b >= c <> d < e > f = g"}, {"::=:=:", ": := := :"}, {"<==>=<>>", "<= = >= <> >"},
		{"a-b", "a - b"}, {"T#-5ms-3", "T#-5ms - 3"}, {"#--#-", "#- - #-"}, {"-#", "- #"}, {"9_A#z", "9_A#z"}, {"(a)[b]{c},;.+-*/", "( a ) [ b ] { c } , ; . + - * /"}, {": =", ": ="}, {"<\n>", "< >"}, {"##-1", "##-1"},
	}
	for i, r := range rows {
		l, line := Split(r.s)
		if line != 0 || Join(l) != r.want {
			t.Error(i, l, line)
		}
		for _, x := range l {
			kind := Word
			if strings.ContainsAny(x.Text[:1], signs) {
				kind = Sign
			}
			if x.Kind != kind {
				t.Error("kind", x)
			}
		}
	}
	l, _ := Split("a\nb c\n\n ;\r\n:=")
	var lines []int
	for _, x := range l {
		lines = append(lines, x.Line)
	}
	if !slices.Equal(lines, []int{1, 2, 2, 4, 5}) {
		t.Error(lines)
	}
	for s, want := range map[string]int{"a\nb ? c": 2, "\"": 1, "\n\n\x00": 3, "ä": 1, "a & b": 1, "!": 1, "a\v": 1, "%\n%": 1} {
		if l, line := Split(s); line != want || len(l) > 0 {
			t.Error(s, line)
		}
	}
}

func TestJoin(t *testing.T) {
	if Join(nil) != "" || Join([]api.Token{{Text: "a"}, {Text: ""}, {Text: "b"}}) != "a  b" {
		t.Error("join")
	}
	for seed := range 2000 {
		d := sample.New(seed)
		var b []byte
		for range d.N(40) {
			b = append(b, "aZ09_#-:=<>()[]{},;.+*/ \n\t"[d.N(26)])
		}
		l, line := Split(string(b))
		if line != 0 {
			t.Fatal(seed, line)
		}
		again, _ := Split(Join(l))
		if len(again) != len(l) {
			t.Fatal(seed)
		}
		for i, x := range l {
			one, _ := Split(x.Text)
			if again[i].Text != x.Text || again[i].Kind != x.Kind || len(one) != 1 || one[0].Text != x.Text {
				t.Fatal(seed, x)
			}
		}
	}
}
