package show

import (
	"slices"
	"strings"
	"testing"

	"ladderback/api"
	"ladderback/deep"
	"ladderback/lex"
	"ladderback/sample"
)

func slot(n int) api.Expr               { return api.Expr{Op: api.ExSlot, N: n} }
func vari(n int) api.Expr               { return api.Expr{Op: api.ExVar, N: n} }
func c(t, v int) api.Expr               { return api.Expr{Op: api.ExConst, T: t, N: v} }
func un(m int, e api.Expr) api.Expr     { return api.Expr{Op: api.ExUn, M: m, L: []api.Expr{e}} }
func bin(m int, l ...api.Expr) api.Expr { return api.Expr{Op: api.ExBin, M: m, L: l} }
func list(l ...api.Stmt) []api.Stmt     { return l }

// source has the variables a, b, q of BOOL, n of INT, an array, and the blocks t and k.
func source(body ...api.Stmt) api.Source {
	return api.Source{
		Vars:   []api.Var{{Name: "a", T: api.Bool, N: 1, Area: api.In}, {Name: "b", T: api.Bool, N: 1, Init: 1}, {Name: "q", T: api.Bool, N: 1, Area: api.Out}, {Name: "n", T: api.Int, N: 1, Init: -3}, {Name: "row", T: api.Word, N: 4, Init: 7}},
		Blocks: []api.Block{{Name: "t", Kind: api.Ton}, {Name: "k", Kind: api.Ctu}},
		Funcs: []api.Func{
			{Name: "main", Locals: []int{api.Int, api.Bool}, Body: body},
			{Name: "f", Params: []int{api.Int, api.Bool}, Result: api.Int, Locals: []int{api.Time}},
		},
	}
}

const frame = `PROJECT
  IN a : BOOL := FALSE ;
  MEM b : BOOL := TRUE ;
  OUT q : BOOL := FALSE ;
  MEM n : INT := INT#-3 ;
  MEM row : ARRAY 4 OF WORD := WORD#7 ;
  FB t : TON ;
  FB k : CTU ;
  PROGRAM main
    LOCAL l0 : INT ;
    LOCAL l1 : BOOL ;
  BEGIN
@  END_PROGRAM
  FUNCTION f : INT
    INPUT p0 : INT ;
    INPUT p1 : BOOL ;
    LOCAL l3 : TIME ;
  BEGIN
  END_FUNCTION
END_PROJECT
`

var exit, next = api.Stmt{Kind: api.StExit, Cost: 1}, api.Stmt{Kind: api.StNext}

func TestStatements(t *testing.T) {
	less := bin(api.OpLt, vari(3), c(api.Int, 2))
	item := api.Expr{Op: api.ExItem, N: 4, L: []api.Expr{slot(0)}}
	rows := []struct {
		x           api.Stmt
		plain, rung string
	}{
		{api.Stmt{Cost: 7}, "{ 7 } ;", ""}, {api.Stmt{Kind: api.StReturn}, "{ 0 } RETURN ;", ""},
		{api.Stmt{Kind: api.StVar, N: 3, Cost: 2, E: slot(0)}, "{ 2 } n := l0 ;", ""}, {api.Stmt{Kind: api.StSlot, E: un(api.OpNeg, vari(3))}, "{ 0 } l0 := - n ;", ""},
		{api.Stmt{Kind: api.StItem, N: 4, I: slot(0), E: item}, "{ 0 } row [ l0 ] := row [ l0 ] ;", ""}, {api.Stmt{Kind: api.StField, M: 1, E: c(api.Time, 5)}, "{ 0 } t . PT := T#5ms ;", ""},
		{api.Stmt{Kind: api.StBlock}, "{ 0 } t ( ) ;", ""}, {api.Stmt{Kind: api.StBlock, Args: []api.Arg{{Field: 1, E: c(api.Time, 5)}, {E: less}}}, "{ 0 } t ( PT := T#5ms , IN := ( n < INT#2 ) ) ;", ""},
		{api.Stmt{Kind: api.StCall, N: 1, M: -1, L: []api.Expr{slot(0), less}}, "{ 0 } f ( l0 , ( n < INT#2 ) ) ;", ""}, {api.Stmt{Kind: api.StCall, N: 1, L: []api.Expr{slot(0), slot(1)}}, "{ 0 } l0 := f ( l0 , l1 ) ;", ""},
		{api.Stmt{Kind: api.StSlot, E: bin(api.OpMod, bin(api.OpAdd, vari(3), slot(0)), api.Expr{Op: api.ExConv, T: api.Int, L: []api.Expr{bin(api.OpShl, item, slot(0))}})}, "{ 0 } l0 := ( ( n + l0 ) MOD TO_INT ( SHL ( row [ l0 ] , l0 ) ) ) ;", ""},
		{api.Stmt{Kind: api.StVar, N: 2, Cost: 4, E: bin(api.OpAnd, vari(0), un(api.OpNot, vari(1)))}, "{ 4 } q := ( a AND NOT b ) ;", "{ 4 } RUNG a / b ( q ) ;"},
		{api.Stmt{Kind: api.StSlot, N: 1, E: bin(api.OpOr, bin(api.OpAnd, vari(0), bin(api.OpOr, slot(1), c(api.Bool, 0))), api.Expr{Op: api.ExField, M: 2})}, "{ 0 } l1 := ( ( a AND ( l1 OR FALSE ) ) OR t . Q ) ;", "{ 0 } RUNG [ a [ l1 , FALSE ] , t . Q ] ( l1 ) ;"},
		{api.Stmt{Kind: api.StVar, N: 2, E: un(api.OpNot, bin(api.OpAnd, vari(0), vari(1)))}, "{ 0 } q := NOT ( a AND b ) ;", ""},
		{api.Stmt{Kind: api.StIf, Cost: 3, E: vari(0), Body: list(api.Stmt{Kind: api.StVar, N: 2, Cost: 2, E: c(api.Bool, 1)})}, "{ 3 } IF a THEN\n      { 2 } q := TRUE ;\n    END_IF ;", "{ 3 } RUNG a ( S { 2 } q ) ;"},
		{api.Stmt{Kind: api.StIf, Cost: 3, E: vari(0), Body: list(api.Stmt{Kind: api.StSlot, N: 1, E: c(api.Bool, 0)})}, "{ 3 } IF a THEN\n      { 0 } l1 := FALSE ;\n    END_IF ;", "{ 3 } RUNG a ( R { 0 } l1 ) ;"},
		{api.Stmt{Kind: api.StBlock, Cost: 9, Args: []api.Arg{{E: vari(0)}, {Field: 1, E: c(api.Time, 5)}}}, "{ 9 } t ( IN := a , PT := T#5ms ) ;", "{ 9 } RUNG a ( t . IN , PT := T#5ms ) ;"},
		{api.Stmt{Kind: api.StBlock, N: 1, Args: []api.Arg{{Field: 1, E: vari(0)}}}, "{ 0 } k ( R := a ) ;", "{ 0 } RUNG a ( k . R ) ;"},
		{api.Stmt{Kind: api.StIf, E: less, Body: list(exit), Else: list(next, api.Stmt{})}, "{ 0 } IF ( n < INT#2 ) THEN\n      { 1 } EXIT ;\n    ELSE\n      { 0 } CONTINUE ;\n      { 0 } ;\n    END_IF ;", ""},
		{api.Stmt{Kind: api.StWhile, Cost: 1, E: less, Body: list(exit)}, "{ 1 } WHILE ( n < INT#2 ) DO\n      { 1 } EXIT ;\n    END_WHILE ;", ""}, {api.Stmt{Kind: api.StLoop, Body: list(next)}, "{ 0 } LOOP\n      { 0 } CONTINUE ;\n    END_LOOP ;", ""}, {api.Stmt{Kind: api.StRepeat, E: less}, "{ 0 } REPEAT\n    UNTIL ( n < INT#2 ) END_REPEAT ;", ""},
		{api.Stmt{Kind: api.StCase, E: slot(0), Arms: []api.Arm{{Labels: []int{0, 12}, Body: list(api.Stmt{})}, {Labels: []int{3}}}, Else: list(api.Stmt{})}, "{ 0 } CASE l0\n    OF 0 , 12 :\n      { 0 } ;\n    OF 3 :\n    ELSE\n      { 0 } ;\n    END_CASE ;", ""},
	}
	for i, r := range rows {
		x := r.x
		if x.Kind == api.StIf && len(x.Else) > 0 {
			x = api.Stmt{Kind: api.StLoop, Body: list(x)}
			r.plain = "{ 0 } LOOP\n      " + strings.ReplaceAll(r.plain, "\n", "\n  ") + "\n    END_LOOP ;"
		}
		if r.rung == "" {
			r.rung = r.plain
		}
		plain, ok1 := Plain(source(x))
		ladder, ok2 := Source(source(x))
		if !ok1 || plain != strings.Replace(frame, "@", "    "+r.plain+"\n", 1) {
			t.Error("plain", i, plain)
		}
		if inner := strings.Replace(frame, "@", "    "+r.rung+"\n", 1); !ok2 || ladder != inner && x.Kind < api.StIf || r.rung != r.plain && ladder != inner {
			t.Error("ladder", i, ladder)
		}
	}
	pair := source()
	pair.Vars[4].N = 2
	if s, ok := Source(pair); !ok || s != strings.Replace(strings.Replace(frame, "ARRAY 4", "ARRAY 2", 1), "@", "", 1) {
		t.Error("an array of two", s)
	}
	if s, ok := Plain(source()); !ok || s != strings.Replace(frame, "@", "", 1) {
		t.Error("empty", s)
	}
}

func TestInfix(t *testing.T) {
	for op, word := range map[int]string{api.OpAdd: "+", api.OpSub: "-", api.OpMul: "*", api.OpDiv: "/", api.OpMod: "MOD", api.OpEq: "=", api.OpNe: "<>", api.OpLt: "<", api.OpLe: "<=", api.OpGt: ">", api.OpGe: ">="} {
		if got := Expr(source(), 0, bin(op, slot(0), vari(3))); got != "( l0 "+word+" n )" {
			t.Error(got)
		}
	}
	for op, word := range map[int]string{api.OpAnd: "AND", api.OpOr: "OR", api.OpXor: "XOR"} {
		if got := Expr(source(), 1, bin(op, slot(1), vari(0))); got != "( p1 "+word+" a )" {
			t.Error(got)
		}
	}
	if got := Expr(source(), 1, bin(api.OpShr, slot(2), slot(3))); got != "SHR ( r , l3 )" {
		t.Error(got)
	}
	for _, e := range []api.Expr{{}, {Op: 99}, bin(api.OpAdd), bin(99, slot(0)), vari(99), slot(-1), {Op: api.ExField, N: 9}, {Op: api.ExItem}, {Op: api.ExUn}, {Op: api.ExConv}, c(9, 9)} {
		Expr(source(), 0, e)
		Expr(source(), 9, e)
		Expr(api.Source{}, -1, e)
	}
}

func TestNames(t *testing.T) {
	if got := Names(source()); !slices.Equal(got, []string{"a", "b", "q", "n", "row", "t", "k", "main", "f"}) || !Named(source()) || len(Names(api.Source{})) != 0 || !Named(api.Source{}) {
		t.Error(got)
	}
	for i, f := range []func(*api.Source){
		func(s *api.Source) { s.Vars[0].Name = "b" }, func(s *api.Source) { s.Vars[0].Name = "main" }, func(s *api.Source) { s.Blocks[1].Name = "" }, func(s *api.Source) { s.Funcs[1].Name = "if" }, func(s *api.Source) { s.Funcs[1].Name = "t" }, func(s *api.Source) { s.Vars[2].Name = "l0" },
	} {
		s := source()
		f(&s)
		if got, ok := Source(s); Named(s) || ok || got != "" {
			t.Error(i)
		}
	}
	wrong := source(exit)
	if got, ok := Plain(wrong); ok || got != "" {
		t.Error("not right")
	}
	f := source().Funcs[1]
	for n, want := range map[int]string{0: "p0", 1: "p1", 2: "r", 3: "l3", 4: "", -1: "", 1 << 62: ""} {
		if Slot(f, n) != want {
			t.Error(n)
		}
	}
}

func TestDeepAndLong(t *testing.T) {
	x := api.Stmt{}
	for range 9 {
		x = api.Stmt{Kind: api.StLoop, Body: list(x)}
	}
	if s, _ := Plain(source(x)); !strings.Contains(s, "\n                { 0 } ;\n") || strings.Contains(s, "\n                 ") {
		t.Error("eight steps at most")
	}
	one := api.Stmt{Kind: api.StVar, N: 3, E: c(api.Int, 0)}
	line := len("    { 0 } n := INT#0 ;\n")
	many := make([]api.Stmt, (api.MaxText-len(frame)+1)/line)
	for i := range many {
		many[i] = one
	}
	s, ok := Source(source(many...))
	if !ok || len(s) > api.MaxText {
		t.Fatal("as long as may be")
	}
	// Costs of more digits fill what is left.
	left := api.MaxText - len(s)
	for i := range left {
		many[i/4].Cost = max(many[i/4].Cost, 1) * 10
	}
	if s, ok = Source(source(many...)); !ok || len(s) != api.MaxText {
		t.Error("just as long as may be", len(s))
	}
	many[left].Cost = 10
	if s, ok := Source(source(many...)); ok || s != "" {
		t.Error("too long")
	}
}

func TestUnlikeTexts(t *testing.T) {
	met := map[string]int{}
	for seed := range 400 {
		s := sample.Source(seed)
		for k, other := range []api.Source{s, deep.Source(s), s, s} {
			switch k {
			case 2:
				other = deep.Source(s)
				other.Vars[3].Init++
			case 3:
				other = deep.Source(s)
				other.Funcs[0].Body = append(other.Funcs[0].Body, api.Stmt{})
			}
			text, ok := Source(other)
			if !ok {
				t.Fatal(seed)
			}
			if was, ok := met[text]; ok && (k != 1 || was != 2*seed) {
				t.Fatal("alike", seed, k)
			}
			met[text] = 2*seed + k/2
			if k < 2 {
				met[text] = 2 * seed
			}
			if l, line := lex.Split(text); line != 0 || strings.ReplaceAll(strings.TrimSpace(text), "\n", " ") != "" && len(l) == 0 {
				t.Fatal("words")
			}
		}
	}
}
