package show

import (
	"ladderback/api"
	"ladderback/net"
	"ladderback/num"
	"ladderback/rung"
)

func (w *writer) list(step int, l []api.Stmt) {
	for _, x := range l {
		w.stmt(step, x)
	}
}

// cost tells the words of a cost.
func cost(n int) []string {
	return []string{"{", num.Print(n), "}"}
}

func (w *writer) stmt(step int, x api.Stmt) {
	words := cost(x.Cost)
	if w.ladder {
		if k := rung.Kind(w.scope, x); k != rung.None && rung.Is(w.scope, x) {
			w.line(step, w.rung(words, k, x)...)
			return
		}
	}
	switch x.Kind {
	case api.StIf, api.StWhile, api.StLoop, api.StRepeat, api.StCase:
		w.compound(step, words, x)
	default:
		w.line(step, append(w.simple(words, x), ";")...)
	}
}

// simple puts the words of a statement that has none within it.
func (w *writer) simple(out []string, x api.Stmt) []string {
	switch x.Kind {
	case api.StVar:
		return w.expr(append(out, w.variable(x.N), ":="), x.E)
	case api.StSlot:
		return w.expr(append(out, Slot(w.f, x.N), ":="), x.E)
	case api.StItem:
		out = append(w.expr(append(out, w.variable(x.N), "["), x.I), "]", ":=")
		return w.expr(out, x.E)
	case api.StField:
		return w.expr(append(out, w.block(x.N), ".", w.field(x.N, x.M), ":="), x.E)
	case api.StBlock:
		out = append(out, w.block(x.N), "(")
		for i, a := range x.Args {
			if i > 0 {
				out = append(out, ",")
			}
			out = w.expr(append(out, w.field(x.N, a.Field), ":="), a.E)
		}
		return append(out, ")")
	case api.StCall:
		return w.call(out, x)
	case api.StExit:
		return append(out, "EXIT")
	case api.StNext:
		return append(out, "CONTINUE")
	case api.StReturn:
		return append(out, "RETURN")
	}
	return out
}

func (w *writer) call(out []string, x api.Stmt) []string {
	if x.M != -1 {
		out = append(out, Slot(w.f, x.M), ":=")
	}
	out = append(out, at(w.s.Funcs, x.N).Name, "(")
	for i, e := range x.L {
		if i > 0 {
			out = append(out, ",")
		}
		out = w.expr(out, e)
	}
	return append(out, ")")
}

// compound lays the lines of a statement that has others within it.
func (w *writer) compound(step int, words []string, x api.Stmt) {
	switch x.Kind {
	case api.StIf:
		w.line(step, append(w.expr(append(words, "IF"), x.E), "THEN")...)
		w.list(step+1, x.Body)
		w.other(step, x.Else)
		w.line(step, "END_IF", ";")
	case api.StWhile:
		w.line(step, append(w.expr(append(words, "WHILE"), x.E), "DO")...)
		w.list(step+1, x.Body)
		w.line(step, "END_WHILE", ";")
	case api.StLoop:
		w.line(step, append(words, "LOOP")...)
		w.list(step+1, x.Body)
		w.line(step, "END_LOOP", ";")
	case api.StRepeat:
		w.line(step, append(words, "REPEAT")...)
		w.list(step+1, x.Body)
		w.line(step, append(w.expr([]string{"UNTIL"}, x.E), "END_REPEAT", ";")...)
	case api.StCase:
		w.line(step, w.expr(append(words, "CASE"), x.E)...)
		for _, a := range x.Arms {
			w.arm(step, a)
		}
		w.other(step, x.Else)
		w.line(step, "END_CASE", ";")
	}
}

func (w *writer) other(step int, l []api.Stmt) {
	if len(l) > 0 {
		w.line(step, "ELSE")
		w.list(step+1, l)
	}
}

func (w *writer) arm(step int, a api.Arm) {
	words := []string{"OF"}
	for i, n := range a.Labels {
		if i > 0 {
			words = append(words, ",")
		}
		words = append(words, num.Print(n))
	}
	w.line(step, append(words, ":")...)
	w.list(step+1, a.Body)
}

// rung puts the words of a rung.
func (w *writer) rung(out []string, k int, x api.Stmt) []string {
	n, _ := net.From(w.scope, rung.Power(w.scope, x))
	out = append(w.net(append(out, "RUNG"), n), "(")
	switch k {
	case rung.Coil:
		out = append(out, w.driven(x))
	case rung.SetCoil, rung.ResetCoil:
		letter := "S"
		if k == rung.ResetCoil {
			letter = "R"
		}
		out = append(append(out, letter), cost(x.Body[0].Cost)...)
		out = append(out, w.driven(x.Body[0]))
	case rung.Box:
		out = append(out, w.block(x.N), ".", w.field(x.N, x.Args[0].Field))
		for _, a := range x.Args[1:] {
			out = w.expr(append(out, ",", w.field(x.N, a.Field), ":="), a.E)
		}
	}
	return append(out, ")", ";")
}

func (w *writer) driven(x api.Stmt) string {
	if x.Kind == api.StVar {
		return w.variable(x.N)
	}
	return Slot(w.f, x.N)
}

func (w *writer) net(out []string, n api.Net) []string {
	switch n.Kind {
	case net.Series:
		for _, x := range n.L {
			out = w.net(out, x)
		}
		return out
	case net.Branch:
		out = append(out, "[")
		for i, x := range n.L {
			if i > 0 {
				out = append(out, ",")
			}
			out = w.net(out, x)
		}
		return append(out, "]")
	}
	if n.Neg == 1 {
		out = append(out, "/")
	}
	return w.expr(out, n.E)
}
