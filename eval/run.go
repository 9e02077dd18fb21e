package eval

import (
	"slices"

	"ladderback/api"
	"ladderback/block"
	"ladderback/calc"
)

// How a list of statements ended.
const (
	fell = iota
	exited
	turned
	returned
)

// stop is what is thrown to end a run by a fault.
type stop struct{ fault int }

// run is one scan's run, on a state of its own.
type run struct {
	*Machine
	st   api.State
	fuel int
}

// frame is a function that runs.
type frame struct {
	*run
	scope api.Scope
	slots []int
}

// program runs the first function, and tells the fault.
func (r *run) program() (fault int) {
	defer func() {
		if x := recover(); x != nil {
			s, ok := x.(stop)
			if !ok {
				s.fault = api.FaultWatch
			}
			fault = s.fault
		}
	}()
	r.function(0, nil)
	return api.FaultNone
}

// function runs a function, and tells its slots behind that.
func (r *run) function(n int, params []int) []int {
	f := &frame{run: r, scope: r.scopes[n], slots: make([]int, len(r.scopes[n].Slots))}
	copy(f.slots, params)
	f.list(r.s.Funcs[n].Body)
	return f.slots
}

func (r *run) charge(cost int) {
	if r.fuel < cost {
		panic(stop{api.FaultWatch})
	}
	r.fuel -= cost
}

func (f *frame) value(e api.Expr) int {
	v, fault := calc.Eval(f.scope, f.st, f.slots, e)
	if fault != api.FaultNone {
		panic(stop{fault})
	}
	return v
}

func (f *frame) list(l []api.Stmt) int {
	for i := range l {
		if end := f.one(&l[i]); end != fell {
			return end
		}
	}
	return fell
}

func (f *frame) one(x *api.Stmt) int {
	switch x.Kind {
	case api.StWhile, api.StLoop, api.StRepeat:
		return f.loop(x)
	}
	f.charge(x.Cost)
	switch x.Kind {
	case api.StExit:
		return exited
	case api.StNext:
		return turned
	case api.StReturn:
		return returned
	case api.StIf:
		if f.value(x.E) == 1 {
			return f.list(x.Body)
		}
		return f.list(x.Else)
	case api.StCase:
		return f.list(arm(x, f.value(x.E)))
	}
	f.simple(x)
	return fell
}

// arm tells the statements with which a case goes on.
func arm(x *api.Stmt, v int) []api.Stmt {
	for _, a := range x.Arms {
		if slices.Contains(a.Labels, v) {
			return a.Body
		}
	}
	return x.Else
}

// simple does a statement that has none within it.
func (f *frame) simple(x *api.Stmt) {
	switch x.Kind {
	case api.StVar:
		f.st.Vars[x.N][0] = f.value(x.E)
	case api.StSlot:
		f.slots[x.N] = f.value(x.E)
	case api.StItem:
		place, v := f.value(x.I), f.value(x.E)
		if place < 0 || place >= len(f.st.Vars[x.N]) {
			panic(stop{api.FaultIndex})
		}
		f.st.Vars[x.N][place] = v
	case api.StField:
		f.set(x.N, x.M, f.value(x.E))
	case api.StBlock:
		for _, a := range x.Args {
			f.set(x.N, a.Field, f.value(a.E))
		}
		f.st.Blocks[x.N] = block.Run(f.scope.Blocks[x.N].Kind, f.st.Blocks[x.N], f.st.Now)
	case api.StCall:
		f.call(x)
	}
}

func (f *frame) set(n, m, v int) {
	f.st.Blocks[n] = block.Set(f.scope.Blocks[n].Kind, f.st.Blocks[n], m, v)
}

func (f *frame) call(x *api.Stmt) {
	params, fault := calc.All(f.scope, f.st, f.slots, x.L)
	if fault != api.FaultNone {
		panic(stop{fault})
	}
	slots := f.function(x.N, params)
	if x.M != -1 {
		f.slots[x.M] = slots[len(params)]
	}
}

func (f *frame) loop(x *api.Stmt) int {
	for {
		ahead := f.fuel
		over, end := f.turn(x)
		if over {
			return end
		}
		if f.fuel == ahead {
			f.charge(1)
		}
	}
}

// turn does a turn of a loop, and tells whether the loop is over, and how it ended.
func (f *frame) turn(x *api.Stmt) (bool, int) {
	if x.Kind == api.StWhile {
		f.charge(x.Cost)
		if f.value(x.E) == 0 {
			return true, fell
		}
	}
	switch f.list(x.Body) {
	case exited:
		return true, fell
	case returned:
		return true, returned
	}
	if x.Kind == api.StRepeat {
		f.charge(x.Cost)
		return f.value(x.E) == 1, fell
	}
	return false, fell
}
