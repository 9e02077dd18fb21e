// Package deep copies expressions and statements into memory of their own.
package deep

import (
	"ladderback/api"
)

// List copies a list.
func List[T any](l []T) []T {
	return append([]T(nil), l...)
}

// each copies a list, part by part.
func each[T any](l []T, part func(T) T) []T {
	out := List(l)
	for i, x := range out {
		out[i] = part(x)
	}
	return out
}

// Expr copies an expression.
func Expr(e api.Expr) api.Expr {
	e.L = Exprs(e.L)
	return e
}

// Exprs copies expressions.
func Exprs(l []api.Expr) []api.Expr {
	return each(l, Expr)
}

// Stmt copies a statement.
func Stmt(x api.Stmt) api.Stmt {
	x.E, x.I, x.L = Expr(x.E), Expr(x.I), Exprs(x.L)
	x.Args = each(x.Args, func(a api.Arg) api.Arg {
		a.E = Expr(a.E)
		return a
	})
	x.Body, x.Else = Stmts(x.Body), Stmts(x.Else)
	x.Arms = each(x.Arms, func(a api.Arm) api.Arm {
		return api.Arm{Labels: List(a.Labels), Body: Stmts(a.Body)}
	})
	return x
}

// Stmts copies statements.
func Stmts(l []api.Stmt) []api.Stmt {
	return each(l, Stmt)
}

// Source copies a source.
func Source(s api.Source) api.Source {
	return api.Source{Vars: List(s.Vars), Blocks: List(s.Blocks), Funcs: each(s.Funcs, func(f api.Func) api.Func {
		f.Params, f.Locals, f.Body = List(f.Params), List(f.Locals), Stmts(f.Body)
		return f
	})}
}
