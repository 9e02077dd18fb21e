package parse

import (
	"ladderback/api"
	"ladderback/net"
)

// list reads statements, as long as there are some.
func (r *reader) list() []api.Stmt {
	defer r.deeper()()
	var out []api.Stmt
	for r.ahead(0) == "{" {
		out = append(out, r.stmt())
	}
	return out
}

func (r *reader) cost() int {
	r.must("{")
	n := r.number()
	r.must("}")
	return n
}

func (r *reader) stmt() api.Stmt {
	x := api.Stmt{Cost: r.cost()}
	word := r.ahead(0)
	switch word {
	case "IF", "WHILE", "LOOP", "REPEAT", "CASE":
		r.at++
		r.compound(&x, word)
	case "RUNG":
		r.at++
		r.rung(&x)
	case "EXIT":
		r.at++
		x.Kind = api.StExit
	case "CONTINUE":
		r.at++
		x.Kind = api.StNext
	case "RETURN":
		r.at++
		x.Kind = api.StReturn
	case ";":
	default:
		r.named(&x)
	}
	r.must(";")
	return x
}

func (r *reader) compound(x *api.Stmt, word string) {
	switch word {
	case "IF":
		x.Kind, x.E = api.StIf, r.expr()
		r.must("THEN")
		x.Body = r.list()
		x.Else = r.other()
	case "WHILE":
		x.Kind, x.E = api.StWhile, r.expr()
		r.must("DO")
		x.Body = r.list()
	case "LOOP":
		x.Kind, x.Body = api.StLoop, r.list()
	case "REPEAT":
		x.Kind, x.Body = api.StRepeat, r.list()
		r.must("UNTIL")
		x.E = r.expr()
	case "CASE":
		x.Kind, x.E = api.StCase, r.expr()
		for r.is("OF") {
			x.Arms = append(x.Arms, r.arm())
		}
		x.Else = r.other()
	}
	r.must("END_" + word)
}

// other reads what stands behind ELSE, if there is one; then there is something.
func (r *reader) other() []api.Stmt {
	if !r.is("ELSE") {
		return nil
	}
	l := r.list()
	if len(l) == 0 {
		r.wrong()
	}
	return l
}

func (r *reader) arm() api.Arm {
	a := api.Arm{Labels: []int{r.number()}}
	for r.is(",") {
		a.Labels = append(a.Labels, r.number())
	}
	r.must(":")
	a.Body = r.list()
	return a
}

// named reads a statement that begins with a name.
func (r *reader) named(x *api.Stmt) {
	name, next := r.ahead(0), r.ahead(1)
	blockAt, funcAt, slotAt := find(r.names.blocks, name), find(r.names.funcs, name), find(r.names.slots, name)
	switch {
	case next == "(" && blockAt >= 0 && (funcAt < 0 || r.ahead(2) == ")" || r.ahead(3) == ":="):
		r.at += 2
		x.Kind, x.N = api.StBlock, blockAt
		if r.ahead(0) != ")" {
			x.Args = r.args(x.N, nil)
		}
		r.must(")")
	case next == "(" && funcAt >= 0:
		r.call(x, -1)
	case next == "." && blockAt >= 0:
		x.Kind = api.StField
		x.N, x.M = r.field()
		r.must(":=")
		x.E = r.expr()
	case slotAt >= 0:
		r.at++
		r.must(":=")
		if r.ahead(1) == "(" && find(r.names.funcs, r.ahead(0)) >= 0 {
			r.call(x, slotAt)
			return
		}
		x.Kind, x.N, x.E = api.StSlot, slotAt, r.expr()
	default:
		r.assigned(x)
	}
}

// assigned reads a statement that puts something into a variable.
func (r *reader) assigned(x *api.Stmt) {
	x.Kind = api.StVar
	x.N = r.known(func(s string) int { return find(r.names.vars, s) }, -1)
	if r.is("[") {
		x.Kind, x.I = api.StItem, r.expr()
		r.must("]")
	}
	r.must(":=")
	x.E = r.expr()
}

func (r *reader) call(x *api.Stmt, slot int) {
	x.Kind, x.M = api.StCall, slot
	x.N = r.known(func(s string) int { return find(r.names.funcs, s) }, -1)
	r.must("(")
	for r.ahead(0) != ")" {
		if len(x.L) > 0 {
			r.must(",")
		}
		x.L = append(x.L, r.expr())
	}
	r.must(")")
}

// args reads inputs of a block with what they are set to, behind others.
func (r *reader) args(n int, out []api.Arg) []api.Arg {
	for {
		a := api.Arg{Field: r.fieldOf(n)}
		r.must(":=")
		a.E = r.expr()
		out = append(out, a)
		if !r.is(",") {
			return out
		}
	}
}

// rung reads a rung in ladder.
func (r *reader) rung(x *api.Stmt) {
	begin := r.at
	n := r.row()
	if !net.Right(r.scope, n) || net.Contacts(n) > api.MaxContacts {
		r.at = begin
		r.wrong()
	}
	power := net.Expr(n)
	r.must("(")
	letter := r.ahead(0)
	switch {
	case (letter == "S" || letter == "R") && r.ahead(1) == "{":
		r.at++
		body := api.Stmt{Cost: r.cost(), E: api.Expr{Op: api.ExConst, T: api.Bool}}
		if letter == "S" {
			body.E.N = 1
		}
		r.driven(&body)
		x.Kind, x.E, x.Body = api.StIf, power, []api.Stmt{body}
	case r.ahead(1) == ".":
		n, m := r.field()
		x.Kind, x.N, x.Args = api.StBlock, n, []api.Arg{{Field: m, E: power}}
		if r.is(",") {
			x.Args = r.args(n, x.Args)
		}
	default:
		r.driven(x)
		x.E = power
	}
	r.must(")")
}

// driven reads the name of what a coil drives.
func (r *reader) driven(x *api.Stmt) {
	if n := find(r.names.slots, r.ahead(0)); n >= 0 {
		x.Kind, x.N = api.StSlot, n
		r.at++
		return
	}
	x.Kind = api.StVar
	x.N = r.known(func(s string) int { return find(r.names.vars, s) }, -1)
}

// row reads contacts and branches, one behind the other.
func (r *reader) row() api.Net {
	defer r.deeper()()
	out := api.Net{Kind: net.Series}
	for {
		switch r.ahead(0) {
		case "(", ",", "]", "":
			if len(out.L) == 1 {
				return out.L[0]
			}
			return out
		case "[":
			out.L = append(out.L, r.branch())
		default:
			out.L = append(out.L, r.contact())
		}
	}
}

func (r *reader) branch() api.Net {
	r.must("[")
	out := api.Net{Kind: net.Branch, L: []api.Net{r.row()}}
	for r.is(",") {
		out.L = append(out.L, r.row())
	}
	r.must("]")
	return out
}

func (r *reader) contact() api.Net {
	out := api.Net{Kind: net.Contact}
	if r.is("/") {
		out.Neg = 1
	}
	out.E = r.contacted()
	return out
}
