package show

import (
	"strings"

	"ladderback/api"
	"ladderback/block"
	"ladderback/kind"
	"ladderback/num"
)

// writer writes what stands in one function.
type writer struct {
	s      api.Source
	f      api.Func
	scope  api.Scope
	ladder bool
	line   func(int, ...string)
}

// infix tells the word of an operation between two expressions.
func infix(m int) string {
	switch m {
	case api.OpAdd:
		return "+"
	case api.OpSub:
		return "-"
	case api.OpMul:
		return "*"
	case api.OpDiv:
		return "/"
	case api.OpMod:
		return "MOD"
	case api.OpAnd:
		return "AND"
	case api.OpOr:
		return "OR"
	case api.OpXor:
		return "XOR"
	case api.OpEq:
		return "="
	case api.OpNe:
		return "<>"
	case api.OpLt:
		return "<"
	case api.OpLe:
		return "<="
	case api.OpGt:
		return ">"
	case api.OpGe:
		return ">="
	}
	return ""
}

// at tells one of l, or what is none.
func at[T any](l []T, n int) T {
	var none T
	if n < 0 || n >= len(l) {
		return none
	}
	return l[n]
}

func (w *writer) variable(n int) string {
	return at(w.s.Vars, n).Name
}

func (w *writer) block(n int) string {
	return at(w.s.Blocks, n).Name
}

func (w *writer) field(n, m int) string {
	name, _ := block.Field(at(w.s.Blocks, n).Kind, m)
	return name
}

// expr puts the words of an expression behind others.
func (w *writer) expr(out []string, e api.Expr) []string {
	first, second := at(e.L, 0), at(e.L, 1)
	switch e.Op {
	case api.ExConst:
		return append(out, num.Literal(e.T, e.N))
	case api.ExVar:
		return append(out, w.variable(e.N))
	case api.ExSlot:
		return append(out, Slot(w.f, e.N))
	case api.ExItem:
		return append(w.expr(append(out, w.variable(e.N), "["), first), "]")
	case api.ExField:
		return append(out, w.block(e.N), ".", w.field(e.N, e.M))
	case api.ExUn:
		if e.M == api.OpNot {
			return w.expr(append(out, "NOT"), first)
		}
		return w.expr(append(out, "-"), first)
	case api.ExConv:
		return append(w.expr(append(out, "TO_"+kind.Name(e.T), "("), first), ")")
	case api.ExBin:
		return w.both(out, e.M, first, second)
	}
	return out
}

func (w *writer) both(out []string, m int, first, second api.Expr) []string {
	if m == api.OpShl || m == api.OpShr {
		word := "SHL"
		if m == api.OpShr {
			word = "SHR"
		}
		out = append(out, word, "(")
		return append(w.expr(append(w.expr(out, first), ","), second), ")")
	}
	out = append(w.expr(append(out, "("), first), infix(m))
	return append(w.expr(out, second), ")")
}

// Expr tells the words and signs of an expression, in a function.
func Expr(s api.Source, f int, e api.Expr) string {
	w := &writer{s: s, f: at(s.Funcs, f)}
	return strings.Join(w.expr(nil, e), " ")
}
