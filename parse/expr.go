package parse

import (
	"strings"

	"ladderback/api"
	"ladderback/block"
	"ladderback/kind"
	"ladderback/num"
)

const conversion = "TO_"

// infix tells the operation of a word between two expressions.
func infix(word string) int {
	switch word {
	case "+":
		return api.OpAdd
	case "-":
		return api.OpSub
	case "*":
		return api.OpMul
	case "/":
		return api.OpDiv
	case "MOD":
		return api.OpMod
	case "AND":
		return api.OpAnd
	case "OR":
		return api.OpOr
	case "XOR":
		return api.OpXor
	case "=":
		return api.OpEq
	case "<>":
		return api.OpNe
	case "<":
		return api.OpLt
	case "<=":
		return api.OpLe
	case ">":
		return api.OpGt
	case ">=":
		return api.OpGe
	}
	return 0
}

// alone reads an expression behind which nothing comes.
func (r *reader) alone() (e api.Expr, ok bool) {
	defer func() {
		if x := recover(); x != nil {
			e, ok = api.Expr{}, false
		}
	}()
	e = r.expr()
	return e, r.at == len(r.l)
}

// deeper goes one step in, and tells how one comes out again.
func (r *reader) deeper() func() {
	if r.depth++; r.depth > mostDepth {
		r.wrong()
	}
	return func() { r.depth-- }
}

func (r *reader) expr() api.Expr {
	defer r.deeper()()
	word := r.ahead(0)
	switch {
	case r.is("NOT"):
		return api.Expr{Op: api.ExUn, M: api.OpNot, L: []api.Expr{r.expr()}}
	case r.is("-"):
		return api.Expr{Op: api.ExUn, M: api.OpNeg, L: []api.Expr{r.expr()}}
	case r.is("("):
		a := r.expr()
		m := r.known(infix, 0)
		return r.both(m, a, ")")
	case word == "SHL" || word == "SHR":
		r.at++
		r.must("(")
		a := r.expr()
		r.must(",")
		return r.both(map[string]int{"SHL": api.OpShl, "SHR": api.OpShr}[word], a, ")")
	case strings.HasPrefix(word, conversion):
		t := r.known(func(s string) int { return kind.Find(strings.TrimPrefix(s, conversion)) }, 0)
		r.must("(")
		e := api.Expr{Op: api.ExConv, T: t, L: []api.Expr{r.expr()}}
		r.must(")")
		return e
	}
	return r.leaf()
}

// both reads the second expression of an operation, and what closes it.
func (r *reader) both(m int, a api.Expr, end string) api.Expr {
	e := api.Expr{Op: api.ExBin, M: m, L: []api.Expr{a, r.expr()}}
	r.must(end)
	return e
}

// leaf reads a constant, or what has a name.
func (r *reader) leaf() api.Expr {
	e := r.contacted()
	if e.Op != api.ExVar || !r.is("[") {
		return e
	}
	e = api.Expr{Op: api.ExItem, N: e.N, L: []api.Expr{r.expr()}}
	r.must("]")
	return e
}

// contacted reads what a contact may be of; a bracket behind that is none of it.
func (r *reader) contacted() api.Expr {
	if r.ahead(1) == "." {
		n, m := r.field()
		return api.Expr{Op: api.ExField, N: n, M: m}
	}
	if t, v, ok := num.Value(r.ahead(0)); ok {
		r.at++
		return api.Expr{Op: api.ExConst, T: t, N: v}
	}
	if n := find(r.names.slots, r.ahead(0)); n >= 0 {
		r.at++
		return api.Expr{Op: api.ExSlot, N: n}
	}
	return api.Expr{Op: api.ExVar, N: r.known(func(s string) int { return find(r.names.vars, s) }, -1)}
}

// field reads a block, and a field of it.
func (r *reader) field() (int, int) {
	n := r.known(func(s string) int { return find(r.names.blocks, s) }, -1)
	r.must(".")
	return n, r.fieldOf(n)
}

// fieldOf reads a field of a block.
func (r *reader) fieldOf(n int) int {
	return r.known(func(s string) int { return block.Place(r.s.Blocks[n].Kind, s) }, -1)
}
