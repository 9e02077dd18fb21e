package canon

import (
	"slices"

	"ladderback/alu"
	"ladderback/api"
	"ladderback/op"
	"ladderback/stmt"
)

// misfit is what is thrown where code isn't noted.
type misfit struct{}

// bounds is where a loop begins, and ends, and whether a turn of it may be over ahead of its end.
type bounds struct {
	head, end int
	turns     bool
}

// reader reads the code of one unit.
type reader struct {
	p     api.Prog
	code  []api.Instr
	loops []bounds
}

// part is how far a piece of code has been read.
type part struct {
	*reader
	pc, to int
	st     []api.Expr
	out    []api.Stmt
}

// parsed tells the statements that the notes of a unit tell, without costs.
func parsed(p api.Prog, u int) (l []api.Stmt, ok bool) {
	defer func() {
		if x := recover(); x != nil {
			l, ok = nil, false
		}
	}()
	r := &reader{p: p, code: p.Units[u].Code}
	last := len(r.code) - 1
	r.is(last, api.Instr{Op: api.OpRet})
	return r.list(0, last), true
}

func must(fine bool) {
	if !fine {
		panic(misfit{})
	}
}

// is sees to it that an instruction is a certain one.
func (r *reader) is(pc int, i api.Instr) {
	must(pc >= 0 && pc < len(r.code) && r.code[pc] == i)
}

// read reads a piece of code, behind which so many expressions are left.
func (r *reader) read(from, to, left int) *part {
	must(from >= 0 && from <= to && to <= len(r.code))
	x := &part{reader: r, pc: from, to: to}
	for x.pc < x.to {
		x.pc++
		x.step(r.code[x.pc-1])
	}
	must(len(x.st) == left)
	return x
}

func (r *reader) list(from, to int) []api.Stmt {
	return r.read(from, to, 0).out
}

// only takes all expressions that are there, which must be so many.
func (x *part) only(n int) []api.Expr {
	must(len(x.st) == n)
	out := x.st
	x.st = nil
	return out
}

func (x *part) put(s api.Stmt) {
	x.out = append(x.out, s)
}

func (x *part) push(e api.Expr) {
	x.st = append(x.st, e)
}

// wrap makes an expression of the topmost n.
func (x *part) wrap(e api.Expr, n int) {
	low := len(x.st) - n
	must(low >= 0)
	e.L = slices.Clone(x.st[low:])
	x.st = append(x.st[:low], e)
}

func (x *part) step(i api.Instr) {
	switch i.Op {
	case api.OpConst:
		must(i.A < len(x.p.Consts))
		x.push(api.Expr{Op: api.ExConst, T: x.p.Consts[i.A].T, N: x.p.Consts[i.A].V})
	case api.OpLoad:
		x.push(api.Expr{Op: api.ExVar, N: i.A})
	case api.OpGet:
		x.push(api.Expr{Op: api.ExSlot, N: i.A})
	case api.OpOut:
		x.push(api.Expr{Op: api.ExField, N: i.A, M: i.B})
	case api.OpItem:
		x.wrap(api.Expr{Op: api.ExItem, N: i.A}, 1)
	case api.OpConv:
		x.wrap(api.Expr{Op: api.ExConv, T: i.B}, 1)
	default:
		x.more(i)
	}
}

func (x *part) more(i api.Instr) {
	a, _ := op.Shape(i.Op)
	switch {
	case alu.Binary(i.Op):
		x.wrap(api.Expr{Op: api.ExBin, M: i.Op}, 2)
	case a == op.Type:
		x.wrap(api.Expr{Op: api.ExUn, M: i.Op}, 1)
	case a == op.Target || a == op.Count || a == op.Note:
		x.noted(i)
	default:
		x.plain(i)
	}
}

// plain reads the last instruction of a statement without notes.
func (x *part) plain(i api.Instr) {
	switch i.Op {
	case api.OpStore:
		x.put(api.Stmt{Kind: api.StVar, N: i.A, E: x.only(1)[0]})
	case api.OpPut:
		x.put(api.Stmt{Kind: api.StSlot, N: i.A, E: x.only(1)[0]})
	case api.OpKeep:
		l := x.only(2)
		x.put(api.Stmt{Kind: api.StItem, N: i.A, I: l[0], E: l[1]})
	case api.OpSet:
		x.put(api.Stmt{Kind: api.StField, N: i.A, M: i.B, E: x.only(1)[0]})
	case api.OpRun:
		x.only(0)
		x.put(api.Stmt{Kind: api.StBlock, N: i.A})
	case api.OpCall:
		x.call(i.A)
	case api.OpRet:
		x.only(0)
		x.put(api.Stmt{Kind: api.StReturn})
	default:
		panic(misfit{})
	}
}

func (x *part) call(n int) {
	must(n < len(x.p.Units))
	u := x.p.Units[n]
	s := api.Stmt{Kind: api.StCall, N: n, M: -1, L: x.only(len(u.Params))}
	if u.Result != 0 {
		must(x.pc < x.to)
		next := x.code[x.pc]
		x.pc++
		if next.Op == api.OpPut {
			s.M = next.A
		} else {
			must(next.Op == api.OpPop)
		}
	}
	x.put(s)
}

// noted reads a statement by the note of its first instruction, behind its expression.
func (x *part) noted(i api.Instr) {
	note := i.B
	if i.Op == api.OpSwitch {
		x.cases(i)
		return
	}
	switch note {
	case api.NoteIf:
		s := api.Stmt{Kind: api.StIf, E: x.only(1)[0], Body: x.list(x.pc, i.A)}
		x.goOn(s, i.A)
	case api.NoteElse:
		x.either(i.A)
	case api.NoteHead, api.NoteLoop, api.NoteRepeat:
		must(i.Op == api.OpNop)
		x.only(0)
		x.loop(note, x.pc-1, i.A)
	case api.NoteExit, api.NoteNext:
		must(i.Op == api.OpJump)
		x.leave(i)
	default:
		panic(misfit{})
	}
}

// goOn puts a statement that ends at a place.
func (x *part) goOn(s api.Stmt, end int) {
	must(end >= x.pc && end <= x.to)
	x.put(s)
	x.pc = end
}

func (x *part) either(other int) {
	s := api.Stmt{Kind: api.StIf, E: x.only(1)[0]}
	must(other > x.pc && other <= x.to)
	end := x.code[other-1].A
	x.is(other-1, api.Instr{Op: api.OpJump, A: end, B: api.NoteSkip})
	s.Body = x.list(x.pc, other-1)
	must(end <= x.to)
	s.Else = x.list(other, end)
	x.goOn(s, end)
}

func (x *part) leave(i api.Instr) {
	x.only(0)
	must(len(x.loops) > 0)
	l := x.loops[len(x.loops)-1]
	if i.B == api.NoteExit {
		must(i.A == l.end)
		x.put(api.Stmt{Kind: api.StExit})
		return
	}
	must(l.turns && i.A == l.head)
	x.put(api.Stmt{Kind: api.StNext})
}

func (x *part) loop(note, head, end int) {
	must(end-1 > head && end <= x.to)
	x.loops = append(x.loops, bounds{head, end, note != api.NoteRepeat})
	var s api.Stmt
	switch note {
	case api.NoteLoop:
		x.is(end-1, api.Instr{Op: api.OpJump, A: head, B: api.NoteBack})
		s = api.Stmt{Kind: api.StLoop, Body: x.list(head+1, end-1)}
	case api.NoteHead:
		s = x.while(head, end)
	case api.NoteRepeat:
		x.is(end-1, api.Instr{Op: api.OpFalse, A: head, B: api.NoteUntil})
		body := x.read(head+1, end-1, 1)
		s = api.Stmt{Kind: api.StRepeat, Body: body.out, E: body.st[0]}
	}
	x.loops = x.loops[:len(x.loops)-1]
	x.goOn(s, end)
}

func (x *part) while(head, end int) api.Stmt {
	x.is(end-1, api.Instr{Op: api.OpJump, A: head, B: api.NoteBack})
	at := head + 1
	for at < end && x.code[at].Op != api.OpFalse {
		at++
	}
	x.is(at, api.Instr{Op: api.OpFalse, A: end, B: api.NoteWhile})
	asked := x.read(head+1, at, 1)
	must(len(asked.out) == 0)
	return api.Stmt{Kind: api.StWhile, E: asked.st[0], Body: x.list(at+1, end-1)}
}

// cases reads a case behind its OpSwitch, whose note is where the case ends.
func (x *part) cases(i api.Instr) {
	s := api.Stmt{Kind: api.StCase, E: x.only(1)[0]}
	end, other := i.B, x.pc+i.A
	must(i.A <= stmt.Most+1 && end <= x.to && other < end)
	labels := map[int][]int{}
	var starts []int
	for n := range i.A {
		to := x.code[x.pc+n].A
		x.is(x.pc+n, api.Instr{Op: api.OpJump, A: to, B: api.NoteArm})
		must(to >= other && to < end)
		if to != other && labels[to] == nil {
			starts = append(starts, to)
		}
		labels[to] = append(labels[to], n)
	}
	slices.Sort(starts)
	starts = append(starts, end)
	s.Else = x.arm(other, starts[0], end)
	for k, from := range starts[:len(starts)-1] {
		s.Arms = append(s.Arms, api.Arm{Labels: labels[from], Body: x.arm(from, starts[k+1], end)})
	}
	x.goOn(s, end)
}

// arm reads statements up to ahead of a place, with a jump to the end behind them.
func (x *part) arm(from, to, end int) []api.Stmt {
	x.is(to-1, api.Instr{Op: api.OpJump, A: end, B: api.NoteSkip})
	return x.list(from, to-1)
}
