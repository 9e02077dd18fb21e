package sample

import (
	"ladderback/alu"
	"ladderback/api"
)

// writer makes statements of one function.
type writer struct {
	*Dice
	vars  []api.Var
	slots []int
	f     int
	costs bool
}

// Source makes a right source of a number.
func Source(seed int) api.Source {
	d := New(seed)
	s := api.Source{Vars: Vars(), Blocks: Blocks(), Funcs: Heads()}
	costs := d.N(2) == 0
	for i, f := range s.Funcs {
		slots := append([]int{}, f.Params...)
		if f.Result != 0 {
			slots = append(slots, f.Result)
		}
		w := &writer{d, s.Vars, append(slots, f.Locals...), i, costs}
		s.Funcs[i].Body = w.list(3, 0)
	}
	return s
}

// Expr makes an expression of a type, in the scope of the first function.
func Expr(d *Dice, t, depth int) api.Expr {
	w := &writer{Dice: d, vars: Vars(), slots: Heads()[0].Locals}
	return w.expr(t, depth)
}

func (w *writer) pick(l []int, t int) (int, bool) {
	at := w.N(len(l))
	for k := range l {
		if n := (at + k) % len(l); l[n] == t {
			return n, true
		}
	}
	return 0, false
}

func (w *writer) variable(t int, array bool) (int, bool) {
	at := w.N(len(w.vars))
	for k := range w.vars {
		n := (at + k) % len(w.vars)
		if v := w.vars[n]; v.T == t && (v.N > 1) == array {
			return n, true
		}
	}
	return 0, false
}

func (w *writer) leaf(t int) api.Expr {
	switch w.N(5) {
	case 0, 1:
		if n, ok := w.variable(t, false); ok {
			return api.Expr{Op: api.ExVar, N: n}
		}
	case 2:
		if n, ok := w.pick(w.slots, t); ok {
			return api.Expr{Op: api.ExSlot, N: n}
		}
	case 3:
		if n, m, ok := w.fieldsOf(t, false); ok {
			return api.Expr{Op: api.ExField, N: n, M: m}
		}
	}
	return api.Expr{Op: api.ExConst, T: t, N: w.Value(t)}
}

func (w *writer) expr(t, depth int) api.Expr {
	if depth == 0 || w.N(3) == 0 {
		return w.leaf(t)
	}
	op := w.Of(api.OpAdd, api.OpSub, api.OpMul, api.OpDiv, api.OpMod, api.OpNeg, api.OpAnd, api.OpOr, api.OpXor, api.OpNot, api.OpShl, api.OpShr)
	switch k := w.N(8); {
	case k == 0:
		return api.Expr{Op: api.ExConv, T: t, L: []api.Expr{w.expr(1+w.N(6), depth-1)}}
	case k == 1:
		if n, ok := w.variable(t, true); ok {
			return api.Expr{Op: api.ExItem, N: n, L: []api.Expr{w.index(depth - 1)}}
		}
	case t == api.Bool && k == 2:
		u := 1 + w.N(6)
		cmp := api.OpEq + w.N(6)
		if alu.Goes(cmp, u) {
			return api.Expr{Op: api.ExBin, M: cmp, L: []api.Expr{w.expr(u, depth-1), w.expr(u, depth-1)}}
		}
	case !alu.Goes(op, t):
	case !alu.Binary(op):
		return api.Expr{Op: api.ExUn, M: op, L: []api.Expr{w.expr(t, depth-1)}}
	default:
		other := t
		if op == api.OpShl || op == api.OpShr {
			other = api.Int
		}
		return api.Expr{Op: api.ExBin, M: op, L: []api.Expr{w.expr(t, depth-1), w.expr(other, depth-1)}}
	}
	return w.leaf(t)
}

// index makes a place that is mostly there.
func (w *writer) index(depth int) api.Expr {
	if w.N(5) == 0 {
		return w.expr(api.Int, depth)
	}
	return api.Expr{Op: api.ExConst, T: api.Int, N: w.N(2)}
}

// Kinds of loops in which a list stands: 0 none, 1 one whose turn may be over, 2 one whose may not.
func (w *writer) list(depth, loop int) []api.Stmt {
	var out []api.Stmt
	for range w.N(4) + 1 {
		x := w.stmt(depth, loop)
		if w.costs && x.Kind != api.StLoop {
			x.Cost = w.N(4)
		}
		out = append(out, x)
	}
	return out
}

func (w *writer) stmt(depth, loop int) api.Stmt {
	if depth == 0 || w.N(2) == 0 {
		return w.simple(loop)
	}
	yes := w.expr(api.Bool, 3)
	switch w.N(7) {
	case 0:
		return api.Stmt{Kind: api.StIf, E: yes, Body: w.list(depth-1, loop)}
	case 1:
		return api.Stmt{Kind: api.StIf, E: yes, Body: w.list(depth-1, loop), Else: w.list(depth-1, loop)}
	case 2:
		return api.Stmt{Kind: api.StWhile, E: yes, Body: w.list(depth-1, 1)}
	case 3:
		return api.Stmt{Kind: api.StLoop, Body: append(w.list(depth-1, 1), api.Stmt{Kind: api.StIf, E: yes, Body: []api.Stmt{{Kind: api.StExit}}})}
	case 4:
		return api.Stmt{Kind: api.StRepeat, E: yes, Body: w.list(depth-1, 2)}
	case 5:
		return api.Stmt{Kind: api.StIf, E: yes, Else: w.list(depth-1, loop)}
	}
	arms := []api.Arm{{Labels: []int{w.N(2), 2 + w.N(2)}, Body: w.list(depth-1, loop)}, {Labels: []int{5}}}
	x := api.Stmt{Kind: api.StCase, E: w.expr(api.Int, 1), Arms: arms[:w.N(3)]}
	if w.N(2) == 0 {
		x.Else = w.list(depth-1, loop)
	}
	return x
}

func (w *writer) simple(loop int) api.Stmt {
	t := 1 + w.N(6)
	switch w.N(12) {
	case 0:
		return api.Stmt{}
	case 1, 2:
		if n, ok := w.pick(w.slots, t); ok {
			return api.Stmt{Kind: api.StSlot, N: n, E: w.expr(t, 3)}
		}
	case 3:
		if n, ok := w.variable(t, true); ok {
			return api.Stmt{Kind: api.StItem, N: n, I: w.index(1), E: w.expr(t, 2)}
		}
	case 4:
		if n, m, ok := w.fieldsOf(t, true); ok {
			return api.Stmt{Kind: api.StField, N: n, M: m, E: w.expr(t, 2)}
		}
	case 5, 6:
		x := api.Stmt{Kind: api.StBlock, N: w.N(8)}
		if n, m, ok := w.fieldsOf(api.Bool, true); ok && w.N(2) == 0 {
			x.N, x.Args = n, []api.Arg{{Field: m, E: w.expr(api.Bool, 2)}}
		}
		return x
	case 7:
		return w.call()
	case 8:
		if loop > 0 {
			return api.Stmt{Kind: w.Of(api.StExit, api.StExit, api.StNext-loop/2)}
		}
	case 9:
		if w.N(4) == 0 {
			return api.Stmt{Kind: api.StReturn}
		}
	}
	if n, ok := w.variable(t, false); ok {
		return api.Stmt{Kind: api.StVar, N: n, E: w.expr(t, 3)}
	}
	return api.Stmt{}
}

func (w *writer) call() api.Stmt {
	if w.f == 2 {
		return api.Stmt{}
	}
	if w.f == 1 || w.N(2) == 0 {
		return api.Stmt{Kind: api.StCall, N: 2, M: -1, L: []api.Expr{w.expr(api.Time, 2)}}
	}
	x := api.Stmt{Kind: api.StCall, N: 1, M: -1, L: []api.Expr{w.expr(api.Int, 2), w.expr(api.Bool, 2)}}
	if n, ok := w.pick(w.slots, api.Int); ok && w.N(3) > 0 {
		x.M = n
	}
	return x
}
