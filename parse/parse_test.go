package parse

import (
	"reflect"
	"slices"
	"strings"
	"testing"

	"ladderback/api"
	"ladderback/eval"
	"ladderback/expr"
	"ladderback/lex"
	"ladderback/rung"
	"ladderback/sample"
	"ladderback/show"
	"ladderback/stmt"
)

// same holds sources against each other, part by part.
func same(a, b api.Source) bool {
	if !slices.Equal(a.Vars, b.Vars) || !slices.Equal(a.Blocks, b.Blocks) || len(a.Funcs) != len(b.Funcs) {
		return false
	}
	for i, f := range a.Funcs {
		g := b.Funcs[i]
		if f.Name != g.Name || f.Result != g.Result || !slices.Equal(f.Params, g.Params) || !slices.Equal(f.Locals, g.Locals) || !stmt.Same(f.Body, g.Body) {
			return false
		}
	}
	return true
}

const text = `PROJECT
  IN a : BOOL := FALSE ;
  OUT q : BOOL := TRUE ;
  MEM n : INT := INT#-3 ;
  MEM row : ARRAY 4 OF WORD := WORD#7 ;
  FB t : TON ;
  FB k : CTU ;
  PROGRAM main
    LOCAL l0 : INT ;
    LOCAL l1 : BOOL ;
  BEGIN
    @
  END_PROGRAM
  FUNCTION f : INT
    INPUT p0 : INT ;
    LOCAL l2 : TIME ;
  BEGIN
  END_FUNCTION
  FUNCTION g
  BEGIN
    { 1 } l := q ;
  END_FUNCTION
END_PROJECT
`

// base tells a text with a statement, in the line 12.
func base(s string) string {
	return strings.Replace(strings.Replace(text, "@", s, 1), "{ 1 } l := q ;", "", 1)
}

func TestSamples(t *testing.T) {
	for seed := range 1200 {
		s := sample.Source(seed)
		for i, f := range s.Funcs {
			if seed%2 == 0 {
				s.Funcs[i].Body = rung.Ladder(eval.Scope(s, i), f.Body)
			}
		}
		for k, shown := range []func(api.Source) (string, bool){show.Plain, show.Source} {
			text, ok := shown(s)
			if !ok {
				t.Fatal("show", seed)
			}
			got, line, e := Source(text)
			if e != api.OK || line != 0 || !same(got, s) {
				t.Fatal("parse", seed, k, line, e)
			}
			tight, _ := lex.Split(text)
			if got, _, e := Source(lex.Join(tight)); e != api.OK || !same(got, s) {
				t.Fatal("one line", seed, k)
			}
		}
	}
}

func TestChangedTexts(t *testing.T) {
	fine := 0
	for seed := range 400 {
		s := sample.Source(seed)
		d := sample.New(seed)
		for k, shown := range []func(api.Source) (string, bool){show.Plain, show.Source} {
			text, _ := shown(s)
			whole, _ := lex.Split(text)
			for range 25 {
				l := slices.Clone(whole)
				at, other := d.N(len(l)), d.N(len(l))
				switch d.N(5) {
				case 0:
					l = slices.Delete(l, at, at+1)
				case 1:
					l = slices.Insert(l, at, l[other])
				case 2:
					l[at], l[other] = l[other], l[at]
				case 3:
					l = l[:at]
				default:
					l[at].Text = whole[other].Text
				}
				got, line, e := Source(lex.Join(l))
				if (e == api.ErrText) != (line > 0) || e != api.OK && !same(got, api.Source{}) {
					t.Fatal("answer", seed, line, e)
				}
				if e != api.OK {
					continue
				}
				fine++
				again, ok := shown(got)
				back, _ := lex.Split(again)
				plain, _ := show.Plain(got)
				words, _ := lex.Split(plain)
				if !ok || lex.Join(back) != lex.Join(l) && lex.Join(words) != lex.Join(l) && k == 0 {
					t.Fatal("what is read is shown", seed, k)
				}
			}
		}
	}
	t.Log(fine)
}

func TestStatements(t *testing.T) {
	rows := []struct {
		s    string
		line int
		e    api.Errno
	}{
		{"", 0, api.OK}, {"{ 0 } ;", 0, api.OK}, {"{0};{7}RETURN;", 0, api.OK}, {"{ 1 } RUNG a / l1 ( q ) ;", 0, api.OK}, {"{ 1 } RUNG [ a , / q ] TRUE ( S { 2 } l1 ) ;", 0, api.OK}, {"{ 1 } RUNG a [ l1 , q ] ( t . IN , PT := T#5ms ) ;", 0, api.OK}, {"{ 1 } RUNG t . Q ( R { 0 } q ) ;", 0, api.OK},
		{"{ 1 } l0 := f ( n ) ; { 1 } f ( n ) ; { 1 } g ( ) ; { 1 } t ( ) ; { 1 } t ( IN := a ) ; { 1 } t . PT := T#-5ms ;", 0, api.OK}, {"{ 1 } row [ l0 ] := SHL ( row [ n ] , l0 ) ;", 0, api.OK}, {"{ 1 } CASE n OF 1 , 2 : OF 3 : { 0 } ; ELSE { 0 } ; END_CASE ;", 0, api.OK},
		{"{ 1 } IF a THEN END_IF ;", 0, api.OK}, {"{ 1 } IF a THEN ELSE END_IF ;", 12, api.ErrText}, {"{ 1 } IF a THEN ELSE { 0 } ; END_IF ;", 0, api.OK}, {"{ 1 } CASE n ELSE END_CASE ;", 12, api.ErrText},
		{"{ 0 } LOOP { 0 } EXIT ; END_LOOP ;", 0, api.OK}, {"{ 1 } LOOP { 0 } EXIT ; END_LOOP ;", 0, api.ErrType}, {"{ 0 } EXIT ;", 0, api.ErrType}, {"{ 0 } REPEAT { 0 } CONTINUE ; UNTIL a END_REPEAT ;", 0, api.ErrType},
		{"{ 01 } ;", 12, api.ErrText}, {"{ -1 } ;", 12, api.ErrText}, {"{ 1048577 } ;", 0, api.ErrType}, {"{ 0 } n := INT#05 ;", 12, api.ErrText}, {"{ 0 } n := INT#40000 ;", 12, api.ErrText}, {"{ 0 } n := 5 ;", 12, api.ErrText}, {"{ 0 } n := TRUE ;", 0, api.ErrType}, {"{ 0 } x := TRUE ;", 12, api.ErrText}, {"{ 0 } q := x ;", 12, api.ErrText}, {"{ 0 } l2 := n ;", 12, api.ErrText}, {"{ 0 } l01 := q ;", 12, api.ErrText},
		{"{ 0 } n := row ;", 0, api.ErrType}, {"{ 0 } t . Q := a ;", 0, api.ErrType}, {"{ 0 } t . X := a ;", 12, api.ErrText}, {"{ 0 } k . IN := a ;", 12, api.ErrText}, {"{ 0 } n := f ( n ) ;", 12, api.ErrText}, {"{ 0 } f ( ) ;", 0, api.ErrType}, {"{ 0 } main ( ) ;", 0, api.ErrType}, {"{ 0 } l1 := g ( ) ;", 0, api.ErrType},
		{"{ 0 } q := a AND q ;", 12, api.ErrText}, {"{ 0 } q := ( a AND q OR a ) ;", 12, api.ErrText}, {"{ 0 } q := ( a ) ;", 12, api.ErrText}, {"{ 0 } q := NOT NOT a ;", 0, api.OK}, {"{ 0 } q := TO_BOOL ( n ) ;", 0, api.OK}, {"{ 0 } q := TO_REAL ( n ) ;", 12, api.ErrText}, {"{ 0 } q := TO_ ( n ) ;", 12, api.ErrText}, {"{ 0 } n := - INT#-5 ;", 0, api.OK},
		{"{ 1 } RUNG ( q ) ;", 12, api.ErrText}, {"{ 1 } RUNG / TRUE ( q ) ;", 12, api.ErrText}, {"{ 1 } RUNG [ a ] ( q ) ;", 12, api.ErrText}, {"{ 1 } RUNG [ a , [ q , l1 ] ] ( q ) ;", 12, api.ErrText}, {"{ 1 } RUNG [ a , ] ( q ) ;", 12, api.ErrText}, {"{ 1 } RUNG n ( n ) ;", 12, api.ErrText}, {"{ 1 } RUNG NOT a ( q ) ;", 12, api.ErrText}, {"{ 1 } RUNG a ( n ) ;", 0, api.ErrType}, {"{ 1 } RUNG a ( t . PT ) ;", 0, api.ErrType}, {"{ 1 } RUNG a ( S q ) ;", 12, api.ErrText}, {"{ 1 } RUNG a ( R { 1 } n ) ;", 0, api.ErrType},
		{"{ 1 } RUNG" + strings.Repeat(" a", 24) + " ( q ) ;", 0, api.OK}, {"{ 1 } RUNG" + strings.Repeat(" a", 25) + " ( q ) ;", 12, api.ErrText},
		{"\n\n{ 1 } q := ? ;", 14, api.ErrText}, {"{ 1 } ;\n{ 1 }\nq = a ;", 14, api.ErrText}, {"{ 1 } ", 13, api.ErrText}, {"{ 0 } q := " + strings.Repeat("NOT ", 1<<16) + "a ;", 0, api.OK}, {"{ 0 } q := " + strings.Repeat("NOT ", 1<<19) + "a ;", 12, api.ErrText},
	}
	for i, r := range rows {
		s, line, e := Source(base(r.s))
		if line != r.line || e != r.e || e != api.OK && !same(s, api.Source{}) {
			t.Error(i, r.s[:min(len(r.s), 60)], line, e)
		}
	}
}

func TestTexts(t *testing.T) {
	change := func(old, new string) string { return strings.Replace(base(""), old, new, 1) }
	rows := []struct {
		s    string
		line int
		e    api.Errno
	}{
		{"", 1, api.ErrText}, {"\n\n", 1, api.ErrText}, {"PROJECT\nEND_PROJECT", 0, api.ErrLimit}, {"PROJECT\nPROGRAM m\nBEGIN\nEND_PROGRAM\nEND_PROJECT", 0, api.OK}, {"PROJECT FUNCTION m BEGIN END_FUNCTION END_PROJECT", 1, api.ErrText},
		{strings.TrimSuffix(base(""), "END_PROJECT\n"), 22, api.ErrText}, {base("") + "X", 24, api.ErrText}, {base("") + " \t\r\n", 0, api.OK}, {change("PROJECT", "project"), 1, api.ErrText},
		{change("IN a", "IN A"), 0, api.ErrName}, {change("IN a", "IN if"), 0, api.ErrName}, {change("OUT q", "OUT a"), 0, api.ErrName}, {change("FUNCTION g", "FUNCTION main"), 0, api.ErrName}, {change("FB k", "FB g"), 0, api.ErrName}, {change("MEM n", "MEM l5"), 0, api.ErrName}, {change("MEM n", "MEM a2345678901234567"), 0, api.ErrName}, {change("PROGRAM main", "PROGRAM 5"), 0, api.ErrName}, {change("PROGRAM main", "PROGRAM :"), 8, api.ErrText},
		{change("BOOL := FALSE", "BOOL := INT#0"), 2, api.ErrText}, {change("ARRAY 4", "ARRAY 1"), 5, api.ErrText}, {change("ARRAY 4", "ARRAY 17"), 0, api.ErrType}, {change("ARRAY 4", "ARRAY 04"), 5, api.ErrText}, {change("TON", "TAN"), 6, api.ErrText}, {change("INT := INT#-3", "REAL := INT#-3"), 4, api.ErrText},
		{change("LOCAL l0", "LOCAL l1"), 9, api.ErrText}, {change("LOCAL l2", "LOCAL l1"), 16, api.ErrText}, {change("PROGRAM main", "PROGRAM main : INT"), 9, api.ErrText}, {change("INPUT p0 : INT ;", "LOCAL l1 : INT ; INPUT p0 : INT ;"), 15, api.ErrText},
		{change("FB t : TON ;", "FB t : TON ; MEM z : BOOL := FALSE ;"), 6, api.ErrText}, {change("FUNCTION g", "PROGRAM g"), 19, api.ErrText}, {strings.Repeat(" ", api.MaxText+1), 0, api.ErrLimit}, {base("") + strings.Repeat(" ", api.MaxText-len(base(""))), 0, api.OK}, {"\xff", 1, api.ErrText},
	}
	for i, r := range rows {
		s, line, e := Source(r.s)
		if line != r.line || e != r.e || e != api.OK && !same(s, api.Source{}) {
			t.Error(i, r.s[:min(len(r.s), 60)], line, e)
		}
	}
	long := strings.Repeat("{0}LOOP ", 8) + strings.Repeat("{0};", api.MaxText/24) + strings.Repeat("END_LOOP;", 8)
	if _, line, e := Source(base(long)); line != 0 || e != api.ErrLimit {
		t.Error("a text that is too long when it is shown", line, e)
	}
}

func TestExpr(t *testing.T) {
	s, _, e := Source(base(""))
	if e != api.OK {
		t.Fatal(e)
	}
	for _, text := range []string{"a", "( a AND NOT q )", "row [ l0 ]", "t . ET", "TO_TIME ( k . CV )", "SHR ( row [ INT#2 ] , n )", "- n", "TRUE", "(n<l0)"} {
		got, ok := Expr(s, 0, text)
		l, _ := lex.Split(text)
		if !ok || show.Expr(s, 0, got) != lex.Join(l) {
			t.Error(text, got)
		}
	}
	for _, text := range []string{"", "x", "a a", "( a", "row", "l0 l0", "( a + a )", "t", "t . XX", "p0", "?", "f ( n )", "NOT n", "- a", "( n + INT#1 ) ;", strings.Repeat("NOT ", 1<<18) + "a"} {
		if got, ok := Expr(s, 0, text); ok || !expr.Same(got, api.Expr{}) {
			t.Error(text[:min(len(text), 40)])
		}
	}
	if got, ok := Expr(s, 1, "p0"); !ok || got.Op != api.ExSlot {
		t.Error("function")
	}
	for _, f := range []int{-1, 3, 1 << 62} {
		if _, ok := Expr(s, f, "a"); ok {
			t.Error(f)
		}
	}
	s.Vars[0].Name = "if"
	if _, ok := Expr(s, 0, "q"); ok {
		t.Error("not named")
	}
	for seed := range 500 {
		s := sample.Source(seed)
		d := sample.New(seed)
		x := sample.Expr(d, 1+d.N(6), 4)
		if got, ok := Expr(s, 0, show.Expr(s, 0, x)); !ok || !reflect.DeepEqual(got, x) {
			t.Fatal(seed)
		}
	}
}
