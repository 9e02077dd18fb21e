package lift

import (
	"ladderback/alu"
	"ladderback/api"
	blocks "ladderback/block"
	"ladderback/expr"
	"ladderback/op"
)

// value is an expression that lies on the stack, and its type.
type value struct {
	e api.Expr
	t int
}

// block is how far the lifting of one block has come. What lies on the stack, and may have a fault, lies there in the order in which the machine reckons it.
type block struct {
	*lifter
	st   []value
	out  []api.Stmt
	due  int // what isn't charged yet
	kept int // how many temporaries were taken within the block
}

func slotOf(n int) api.Expr {
	return api.Expr{Op: api.ExSlot, N: n}
}

func (b *block) push(e api.Expr, t int) {
	b.st = append(b.st, value{e, t})
}

// take takes the topmost n off the stack.
func (b *block) take(n int) []value {
	low := len(b.st) - n
	out := append([]value(nil), b.st[low:]...)
	b.st = b.st[:low]
	return out
}

func expressions(l []value) []api.Expr {
	var out []api.Expr
	for _, v := range l {
		out = append(out, v.e)
	}
	return out
}

// reads tells whether an expression reads something.
func reads(e api.Expr, what func(api.Expr) bool) bool {
	if what(e) {
		return true
	}
	for _, x := range e.L {
		if reads(x, what) {
			return true
		}
	}
	return false
}

func one(kind, n int) func(api.Expr) bool {
	return func(e api.Expr) bool { return e.Op == kind && e.N == n }
}

func nothing(api.Expr) bool { return false }

// beyond tells whether an expression reads what other units may change.
func beyond(e api.Expr) bool {
	return e.Op == api.ExVar || e.Op == api.ExItem || e.Op == api.ExField
}

func leaf(e api.Expr) bool {
	return len(e.L) == 0
}

// keep makes a temporary of what lies at a place of the stack.
func (b *block) keep(i int) {
	v := &b.st[i]
	n := b.fresh(v.t)
	b.out = append(b.out, api.Stmt{Kind: api.StSlot, N: n, E: v.e})
	v.e = slotOf(n)
}

// fresh tells the slot of a temporary that nothing else in the block has.
func (b *block) fresh(t int) int {
	b.kept++
	return b.slot(use{within, b.kept, t})
}

// flush makes temporaries of what reads something, and of whatever may have a fault, if that must come first; in order.
func (b *block) flush(read func(api.Expr) bool, faults bool) {
	must := make([]bool, len(b.st))
	behind := faults
	for i := len(b.st) - 1; i >= 0; i-- {
		may := expr.May(b.st[i].e)
		must[i] = behind && may || reads(b.st[i].e, read)
		behind = behind || must[i] && may
	}
	for i, yes := range must {
		if yes {
			b.keep(i)
		}
	}
}

// do puts a statement, behind what must come ahead of it.
func (b *block) do(x api.Stmt, read func(api.Expr) bool, faults bool) {
	b.flush(read, faults)
	x.Cost = b.due
	b.due = 0
	b.out = append(b.out, x)
}

func (b *block) step(i api.Instr) {
	a, _ := op.Shape(i.Op)
	switch a {
	case op.Constant:
		c := b.p.Consts[i.A]
		b.push(api.Expr{Op: api.ExConst, T: c.T, N: c.V}, c.T)
	case op.Variable:
		b.variable(i)
	case op.Slot:
		b.local(i)
	case op.Type:
		b.reckon(i)
	case op.Block:
		b.instance(i)
	case op.Unit:
		b.call(i.A)
	default:
		b.move(i.Op)
	}
}

func (b *block) variable(i api.Instr) {
	t := b.p.Vars[i.A].T
	switch i.Op {
	case api.OpLoad:
		b.push(api.Expr{Op: api.ExVar, N: i.A}, t)
	case api.OpItem:
		b.push(api.Expr{Op: api.ExItem, N: i.A, L: expressions(b.take(1))}, t)
	case api.OpStore:
		e := b.take(1)[0].e
		b.do(api.Stmt{Kind: api.StVar, N: i.A, E: e}, one(api.ExVar, i.A), expr.May(e))
	case api.OpKeep:
		l := b.take(2)
		b.do(api.Stmt{Kind: api.StItem, N: i.A, I: l[0].e, E: l[1].e}, one(api.ExItem, i.A), true)
	}
}

func (b *block) local(i api.Instr) {
	if i.Op == api.OpGet {
		b.push(slotOf(i.A), b.slots[i.A])
		return
	}
	e := b.take(1)[0].e
	b.do(api.Stmt{Kind: api.StSlot, N: i.A, E: e}, one(api.ExSlot, i.A), expr.May(e))
}

func (b *block) reckon(i api.Instr) {
	switch {
	case i.Op == api.OpConv:
		b.push(api.Expr{Op: api.ExConv, T: i.B, L: expressions(b.take(1))}, i.B)
	case !alu.Binary(i.Op):
		b.push(api.Expr{Op: api.ExUn, M: i.Op, L: expressions(b.take(1))}, i.A)
	default:
		b.push(api.Expr{Op: api.ExBin, M: i.Op, L: expressions(b.take(2))}, alu.Result(i.Op, i.A))
	}
}

func (b *block) instance(i api.Instr) {
	_, t := blocks.Field(b.p.Blocks[i.A].Kind, i.B)
	switch i.Op {
	case api.OpOut:
		b.push(api.Expr{Op: api.ExField, N: i.A, M: i.B}, t)
	case api.OpSet:
		e := b.take(1)[0].e
		b.do(api.Stmt{Kind: api.StField, N: i.A, M: i.B, E: e}, one(api.ExField, i.A), expr.May(e))
	case api.OpRun:
		b.do(api.Stmt{Kind: api.StBlock, N: i.A}, one(api.ExField, i.A), false)
	}
}

func (b *block) call(n int) {
	u := b.p.Units[n]
	x := api.Stmt{Kind: api.StCall, N: n, M: -1, L: expressions(b.take(len(u.Params)))}
	if u.Result != 0 {
		x.M = b.fresh(u.Result)
	}
	b.do(x, beyond, true)
	if u.Result != 0 {
		b.push(slotOf(x.M), u.Result)
	}
}

func (b *block) move(operation int) {
	switch operation {
	case api.OpDup:
		b.hold()
		top := b.st[len(b.st)-1]
		b.push(top.e, top.t)
	case api.OpPop:
		if expr.May(b.st[len(b.st)-1].e) {
			b.hold()
		}
		b.take(1)
	case api.OpSwap:
		b.hold()
		top := b.take(1)[0]
		b.hold()
		low := b.take(1)[0]
		b.st = append(b.st, top, low)
	}
}

// hold sees to it that the top is one that may be told twice, or not at all.
func (b *block) hold() {
	top := len(b.st) - 1
	if leaf(b.st[top].e) {
		return
	}
	if !expr.May(b.st[top].e) {
		b.keep(top)
		return
	}
	v := b.take(1)[0]
	b.flush(nothing, true)
	b.st = append(b.st, v)
	b.keep(top)
}

// leave lays what is left on the stack, but for what is on top, where the next blocks find it; and tells what was on top.
func (b *block) leave(over int) api.Expr {
	many := len(b.st) - over
	homes := map[int]int{}
	for i := range many {
		n := b.slot(use{between, i, b.st[i].t})
		if e := b.st[i].e; e.Op != api.ExSlot || e.N != n {
			homes[n] = i + 1
		}
	}
	b.apart(homes)
	for i := range many {
		n := b.slot(use{between, i, b.st[i].t})
		if homes[n] > 0 {
			b.out = append(b.out, api.Stmt{Kind: api.StSlot, N: n, E: b.st[i].e})
		}
	}
	if over == 0 {
		return api.Expr{}
	}
	return b.st[many].e
}

// apart makes temporaries of what reads a slot that something else on the stack goes to.
func (b *block) apart(homes map[int]int) {
	b.flush(func(e api.Expr) bool { return e.Op == api.ExSlot && homes[e.N] > 0 }, false)
}
