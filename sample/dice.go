// Package sample makes programs and sources of numbers, for the tests of other packages.
package sample

import (
	"ladderback/api"
	"ladderback/block"
)

// Dice tells numbers that hang on the first one alone.
type Dice struct{ x uint64 }

// New makes dice.
func New(seed int) *Dice {
	d := &Dice{uint64(seed)*2654435761 + 12345}
	d.N(2)
	return d
}

// N tells a number from 0 to k less 1.
func (d *Dice) N(k int) int {
	d.x = d.x*6364136223846793005 + 1442695040888963407
	return int(d.x>>33) % k
}

// Of tells one of l.
func (d *Dice) Of(l ...int) int {
	return l[d.N(len(l))]
}

// Vars tells the variables that all samples have.
func Vars() []api.Var {
	return []api.Var{
		{Name: "b", T: api.Bool, N: 1}, {Name: "i", T: api.Int, N: 1, Init: 3}, {Name: "d", T: api.Dint, N: 1, Init: -7},
		{Name: "w", T: api.Word, N: 1, Init: 255}, {Name: "dw", T: api.Dword, N: 1}, {Name: "t", T: api.Time, N: 1, Init: 20},
		{Name: "go", T: api.Bool, N: 1, Area: api.In}, {Name: "level", T: api.Int, N: 1, Area: api.In},
		{Name: "q", T: api.Bool, N: 1, Area: api.Out}, {Name: "speed", T: api.Int, N: 1, Area: api.Out, Init: 9},
		{Name: "row", T: api.Int, N: 3, Init: 2}, {Name: "lamps", T: api.Bool, N: 2, Area: api.Out}, {Name: "far", T: api.Dint, N: 4, Area: api.In},
	}
}

// Blocks tells the blocks that all samples have, one of each kind.
func Blocks() []api.Block {
	var out []api.Block
	for k := api.Ton; k <= api.Ftrig; k++ {
		out = append(out, api.Block{Name: "fb_" + string(rune('a'+k)), Kind: k})
	}
	return out
}

// Heads tells the heads of the functions that all samples have.
func Heads() []api.Func {
	return []api.Func{
		{Name: "main", Locals: []int{api.Bool, api.Int, api.Dint, api.Word, api.Dword, api.Time, api.Int, api.Bool}},
		{Name: "calc", Params: []int{api.Int, api.Bool}, Result: api.Int, Locals: []int{api.Int, api.Bool}},
		{Name: "help", Params: []int{api.Time}, Locals: []int{api.Dint, api.Int}},
	}
}

// Value tells a value of a type.
func (d *Dice) Value(t int) int {
	switch t {
	case api.Bool:
		return d.N(2)
	case api.Word, api.Dword:
		return d.Of(0, 1, 2, 255, 4660, 65535)
	}
	return d.Of(0, 1, 2, 3, -1, 5, 30, -9, 1000)
}

// fieldsOf tells a block and a field, or an input, of a type.
func (d *Dice) fieldsOf(t int, inputs bool) (int, int, bool) {
	blocks := Blocks()
	for range 6 {
		n := d.N(len(blocks))
		many := block.Fields(blocks[n].Kind)
		if inputs {
			many = block.Inputs(blocks[n].Kind)
		}
		m := d.N(many)
		if _, u := block.Field(blocks[n].Kind, m); u == t {
			return n, m, true
		}
	}
	return 0, 0, false
}

// Inputs tells what the inputs of a scan are.
func (d *Dice) Inputs() []int {
	return []int{d.N(2), d.Of(0, 1, 2, 3, -1, 7), d.Value(api.Dint), d.N(3), d.N(5), -d.N(9)}
}
