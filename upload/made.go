package upload

import (
	"ladderback/api"
	"ladderback/canon"
	"ladderback/deep"
	"ladderback/disp"
	"ladderback/eval"
	"ladderback/ident"
	"ladderback/lift"
	"ladderback/merge"
	"ladderback/region"
	"ladderback/rung"
)

// function is what is made of a unit, and how.
type function struct {
	how    int
	locals []int
	body   []api.Stmt
}

// of makes a function of a unit of an accepted program; ways are tried one behind the other.
func of(p api.Prog, u int) function {
	locals := p.Units[u].Locals
	var blocks []api.Lifted
	var temps []int
	ways := []func() (function, bool){
		func() (function, bool) {
			l, ok := canon.Read(p, u)
			return function{Noted, deep.List(locals), l}, ok
		},
		func() (function, bool) {
			blocks, temps, _ = lift.Unit(p, u)
			l, ok := region.Shape(blocks)
			return function{Shaped, with(locals, temps), merge.Merge(l)}, ok
		},
		func() (function, bool) {
			l := disp.Make(blocks, len(lift.Scope(p, u, temps).Slots))
			return function{Dispatched, append(with(locals, temps), api.Int), merge.Merge(l)}, true
		},
	}
	for _, way := range ways {
		if f, ok := way(); ok {
			return f
		}
	}
	return function{}
}

func with(locals, temps []int) []int {
	return append(deep.List(locals), temps...)
}

// named tells the source of a program, with names of its own, but for what its functions do.
func named(p api.Prog) api.Source {
	s := api.Source{Vars: deep.List(p.Vars), Blocks: deep.List(p.Blocks)}
	var was []string
	for _, v := range p.Vars {
		was = append(was, v.Name)
	}
	for _, b := range p.Blocks {
		was = append(was, b.Name)
	}
	for _, u := range p.Units {
		was = append(was, u.Name)
		s.Funcs = append(s.Funcs, api.Func{Params: deep.List(u.Params), Result: u.Result})
	}
	names := ident.Unique(was)
	next := func() string {
		name := names[0]
		names = names[1:]
		return name
	}
	for i := range s.Vars {
		s.Vars[i].Name = next()
	}
	for i := range s.Blocks {
		s.Blocks[i].Name = next()
	}
	for i := range s.Funcs {
		s.Funcs[i].Name = next()
	}
	return s
}

// laddered makes rungs of all that may be some.
func laddered(s api.Source) api.Source {
	for i, f := range s.Funcs {
		s.Funcs[i].Body = rung.Ladder(eval.Scope(s, i), f.Body)
	}
	return s
}
