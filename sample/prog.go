package sample

import (
	"slices"

	"ladderback/alu"
	"ladderback/api"
)

// part is a piece of code that begins with a stack of its own.
type part struct {
	entry []int
	code  []api.Instr
	fixes []fix
}

// fix is a place of a part's code that goes to another part.
type fix struct{ at, to int }

// coder makes the code of one unit.
type coder struct {
	*Dice
	p     *api.Prog
	slots []int
	u     int
	st    []int
	now   *part
	parts []part
}

// Prog makes an accepted program of a number, in which control goes anywhere.
func Prog(seed int) api.Prog {
	d := New(seed)
	p := api.Prog{Vars: Vars(), Blocks: Blocks()}
	for range 20 {
		t := 1 + d.N(6)
		p.Consts = append(p.Consts, api.Const{T: t, V: d.Value(t)})
	}
	for t := api.Bool; t <= api.Time; t++ {
		p.Consts = append(p.Consts, api.Const{T: t, V: t % 2})
	}
	for u, f := range Heads() {
		unit := api.Unit{Name: f.Name, Params: f.Params, Result: f.Result, Locals: f.Locals}
		slots := append([]int{}, f.Params...)
		if f.Result != 0 {
			slots = append(slots, f.Result)
		}
		c := &coder{Dice: d, p: &p, slots: append(slots, f.Locals...), u: u}
		unit.Code = c.unit()
		p.Units = append(p.Units, unit)
	}
	return p
}

func (c *coder) unit() []api.Instr {
	c.parts = make([]part, 1+c.N(8))
	for i := range c.parts {
		if i > 0 && c.N(3) == 0 {
			for range c.N(3) {
				c.parts[i].entry = append(c.parts[i].entry, c.Of(api.Int, api.Bool, api.Int, api.Time))
			}
		}
	}
	for i := range c.parts {
		c.now = &c.parts[i]
		c.st = append([]int{}, c.now.entry...)
		for range c.N(9) {
			c.some()
		}
		c.end(i)
	}
	return c.joined()
}

// joined lays all parts one behind the other.
func (c *coder) joined() []api.Instr {
	starts := make([]int, len(c.parts))
	n := 0
	for i, x := range c.parts {
		starts[i] = n
		n += len(x.code)
	}
	var out []api.Instr
	for _, x := range c.parts {
		for _, f := range x.fixes {
			x.code[f.at].A = starts[f.to]
		}
		out = append(out, x.code...)
	}
	return out
}

func (c *coder) put(op, a, b int) {
	c.now.code = append(c.now.code, api.Instr{Op: op, A: a, B: b})
}

func (c *coder) drop(n int) { c.st = c.st[:len(c.st)-n] }

func (c *coder) push(t int) { c.st = append(c.st, t) }

func (c *coder) top(k int) int {
	if k >= len(c.st) {
		return 0
	}
	return c.st[len(c.st)-1-k]
}

// value puts something of a type on the stack.
func (c *coder) value(t int) {
	c.push(t)
	w := &writer{Dice: c.Dice, vars: c.p.Vars, slots: c.slots}
	switch c.N(4) {
	case 0:
		if n, ok := w.variable(t, false); ok {
			c.put(api.OpLoad, n, 0)
			return
		}
	case 1:
		if n, ok := w.pick(c.slots, t); ok {
			c.put(api.OpGet, n, 0)
			return
		}
	case 2:
		if n, m, ok := c.fieldsOf(t, false); ok {
			c.put(api.OpOut, n, m)
			return
		}
	}
	at := c.N(len(c.p.Consts))
	for k := range c.p.Consts {
		if n := (at + k) % len(c.p.Consts); c.p.Consts[n].T == t {
			c.put(api.OpConst, n, 0)
			return
		}
	}
}

// some puts an instruction or two.
func (c *coder) some() {
	if len(c.st) > 24 {
		c.put(api.OpPop, 0, 0)
		c.drop(1)
		return
	}
	switch k := c.N(16); {
	case k < 3 || len(c.st) == 0:
		c.value(1 + c.N(6))
	case k < 8:
		c.reckon()
	case k < 11:
		c.store()
	case k == 11:
		c.put(api.OpDup, 0, 0)
		c.push(c.top(0))
	case k == 12 && len(c.st) > 1:
		c.put(api.OpSwap, 0, 0)
		n := len(c.st)
		c.st[n-1], c.st[n-2] = c.st[n-2], c.st[n-1]
	case k == 13:
		c.put(api.OpPop, 0, 0)
		c.drop(1)
	case k == 14:
		c.call()
	default:
		c.put(api.OpNop, c.N(3), 0)
	}
}

func (c *coder) reckon() {
	op, t := api.OpAdd+c.N(18), c.top(0)
	shift := op == api.OpShl || op == api.OpShr
	switch {
	case c.N(6) == 0:
		to := 1 + c.N(6)
		c.put(api.OpConv, t, to)
		c.drop(1)
		c.push(to)
	case t == api.Int && c.N(5) == 0:
		c.put(api.OpItem, 10, 0)
	case !alu.Goes(op, t) && !shift:
	case !shift && !alu.Binary(op):
		c.put(op, t, 0)
	case shift && alu.Goes(op, t):
		c.value(api.Int)
		c.put(op, t, 0)
		c.drop(1)
	case !shift:
		if c.top(1) != t {
			c.value(t)
		}
		c.put(op, t, 0)
		c.drop(2)
		c.push(alu.Result(op, t))
	}
}

func (c *coder) store() {
	t := c.top(0)
	w := &writer{Dice: c.Dice, vars: c.p.Vars, slots: c.slots}
	switch c.N(4) {
	case 0:
		if n, ok := w.pick(c.slots, t); ok {
			c.put(api.OpPut, n, 0)
			c.drop(1)
		}
	case 1:
		if n, m, ok := c.fieldsOf(t, true); ok {
			c.put(api.OpSet, n, m)
			c.drop(1)
			if c.N(2) == 0 {
				c.put(api.OpRun, n, 0)
			}
		}
	case 2:
		if n, ok := w.variable(t, true); ok && c.top(1) == api.Int {
			c.put(api.OpKeep, n, 0)
			c.drop(2)
		}
	default:
		if n, ok := w.variable(t, false); ok {
			c.put(api.OpStore, n, 0)
			c.drop(1)
		}
	}
}

func (c *coder) call() {
	switch {
	case c.u == 0 && c.top(0) == api.Bool && c.top(1) == api.Int:
		c.put(api.OpCall, 1, 0)
		c.drop(2)
		c.push(api.Int)
	case c.u < 2 && c.top(0) == api.Time:
		c.put(api.OpCall, 2, 0)
		c.drop(1)
	default:
		c.put(api.OpRun, c.N(len(c.p.Blocks)), 0)
	}
}

// fit makes the stack that of a part's entry, with more on top.
func (c *coder) fit(entry []int) {
	same := 0
	for same < len(entry) && same < len(c.st) && entry[same] == c.st[same] {
		same++
	}
	for len(c.st) > same {
		c.put(api.OpPop, 0, 0)
		c.drop(1)
	}
	for len(c.st) < len(entry) {
		c.value(entry[len(c.st)])
	}
}

// target tells a part to which one may go with a stack, mostly a later one.
func (c *coder) target(i int, entry []int) int {
	for range 20 {
		to := c.N(len(c.parts))
		if to <= i && c.N(3) > 0 {
			continue
		}
		if len(c.parts[to].entry) != len(entry) {
			continue
		}
		like := true
		for k, t := range entry {
			like = like && c.parts[to].entry[k] == t
		}
		if like {
			return to
		}
	}
	return -1
}

func (c *coder) goTo(op, to int) {
	c.now.fixes = append(c.now.fixes, fix{len(c.now.code), to})
	c.put(op, 0, c.N(4))
}

func (c *coder) end(i int) {
	to := c.N(len(c.parts))
	entry := c.parts[to].entry
	if c.N(6) == 0 || i == len(c.parts)-1 && c.N(3) > 0 {
		c.fit(nil)
		c.put(api.OpRet, 0, 0)
		return
	}
	c.fit(entry)
	other := c.target(i, entry)
	if other < 0 {
		other = to
	}
	switch c.N(4) {
	case 0:
		c.goTo(api.OpJump, other)
	case 1:
		c.value(api.Int)
		many := c.N(3)
		c.put(api.OpSwitch, many, 0)
		for k := range many {
			c.goTo(api.OpJump, []int{to, other}[k%2])
		}
		c.goTo(api.OpJump, other)
	default:
		c.value(api.Bool)
		c.goTo(api.OpFalse, other)
		if next := i + 1; next < len(c.parts) && slices.Equal(c.parts[next].entry, entry) {
			return
		}
		c.goTo(api.OpJump, to)
	}
}
