package vm

import (
	"ladderback/alu"
	"ladderback/api"
	"ladderback/block"
)

// stop is what is thrown to end a run by a fault.
type stop struct{ fault int }

// run is one scan's run, on a state of its own.
type run struct {
	*Machine
	st   api.State
	fuel int
}

// frame is a unit that runs.
type frame struct {
	*run
	u     api.Unit
	slots []int
	stack []int
	pc    int
	done  bool
}

// program runs the first unit, and tells the fault.
func (r *run) program() (fault int) {
	defer func() {
		if x := recover(); x != nil {
			s, ok := x.(stop)
			if !ok {
				s.fault = api.FaultWatch
			}
			fault = s.fault
		}
	}()
	r.unit(0, nil)
	return api.FaultNone
}

// unit runs a unit, and tells its slots behind that.
func (r *run) unit(n int, params []int) []int {
	f := &frame{run: r, u: r.p.Units[n], slots: make([]int, r.Machine.slots[n])}
	copy(f.slots, params)
	for !f.done {
		if r.fuel == 0 {
			panic(stop{api.FaultWatch})
		}
		r.fuel--
		i := f.u.Code[f.pc]
		f.pc++
		f.step(i)
	}
	return f.slots
}

func (f *frame) push(v int) {
	f.stack = append(f.stack, v)
}

func (f *frame) pop() int {
	last := len(f.stack) - 1
	v := f.stack[last]
	f.stack = f.stack[:last]
	return v
}

func (f *frame) step(i api.Instr) {
	switch {
	case i.Op >= api.OpAdd && i.Op <= api.OpConv:
		f.reckon(i)
	case i.Op >= api.OpConst && i.Op <= api.OpKeep:
		f.move(i)
	case i.Op >= api.OpSet:
		f.block(i)
	default:
		f.flow(i)
	}
}

func (f *frame) move(i api.Instr) {
	switch i.Op {
	case api.OpConst:
		f.push(f.p.Consts[i.A].V)
	case api.OpLoad:
		f.push(f.st.Vars[i.A][0])
	case api.OpStore:
		f.st.Vars[i.A][0] = f.pop()
	case api.OpGet:
		f.push(f.slots[i.A])
	case api.OpPut:
		f.slots[i.A] = f.pop()
	case api.OpItem:
		f.push(*f.item(i.A, f.pop()))
	case api.OpKeep:
		v := f.pop()
		*f.item(i.A, f.pop()) = v
	}
}

// item tells where a value of an array is.
func (f *frame) item(n, place int) *int {
	l := f.st.Vars[n]
	if place < 0 || place >= len(l) {
		panic(stop{api.FaultIndex})
	}
	return &l[place]
}

func (f *frame) reckon(i api.Instr) {
	last := f.pop()
	switch {
	case i.Op == api.OpConv:
		v, _ := alu.Conv(i.A, i.B, last)
		f.push(v)
	case !alu.Binary(i.Op):
		v, _ := alu.Un(i.Op, i.A, last)
		f.push(v)
	default:
		v, fault, _ := alu.Bin(i.Op, i.A, f.pop(), last)
		if fault != api.FaultNone {
			panic(stop{fault})
		}
		f.push(v)
	}
}

func (f *frame) block(i api.Instr) {
	k := f.p.Blocks[i.A].Kind
	switch x := &f.st.Blocks[i.A]; i.Op {
	case api.OpSet:
		*x = block.Set(k, *x, i.B, f.pop())
	case api.OpRun:
		*x = block.Run(k, *x, f.st.Now)
	case api.OpOut:
		f.push(block.Get(k, *x, i.B))
	}
}

func (f *frame) flow(i api.Instr) {
	switch i.Op {
	case api.OpDup:
		v := f.pop()
		f.push(v)
		f.push(v)
	case api.OpPop:
		f.pop()
	case api.OpSwap:
		a, b := f.pop(), f.pop()
		f.push(a)
		f.push(b)
	case api.OpJump:
		f.pc = i.A
	case api.OpFalse:
		if f.pop() == 0 {
			f.pc = i.A
		}
	case api.OpSwitch:
		if k := f.pop(); k >= 0 && k < i.A {
			f.pc = f.u.Code[f.pc+k].A
		} else {
			f.pc += i.A
		}
	case api.OpCall:
		f.call(i.A)
	case api.OpRet:
		f.done = true
	}
}

func (f *frame) call(n int) {
	u := f.p.Units[n]
	low := len(f.stack) - len(u.Params)
	slots := f.unit(n, f.stack[low:])
	f.stack = f.stack[:low]
	if u.Result != 0 {
		f.push(slots[len(u.Params)])
	}
}
