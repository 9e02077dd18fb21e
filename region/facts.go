package region

import (
	"slices"

	"ladderback/api"
	"ladderback/dom"
	"ladderback/loop"
)

// nobody stands for no block.
const nobody = -1

// facts are what is known of the graph of lifted blocks.
type facts struct {
	l     []api.Lifted
	next  [][]int
	rank  []int         // where a block stands in dom's order
	idom  []int         // its nearest dominator
	below [][]int       // whose nearest dominator it is, in dom's order
	doors []int         // by how many ways one comes to it, but by back edges
	loops map[int][]int // the loops, by their heads
}

func factsOf(l []api.Lifted) facts {
	f := facts{l: l, next: make([][]int, len(l)), rank: make([]int, len(l)), below: make([][]int, len(l)), doors: make([]int, len(l)), loops: map[int][]int{}}
	for i, b := range l {
		f.next[i] = b.Next
	}
	f.idom = dom.Idom(f.next)
	backs := map[[2]int]int{}
	for _, edge := range loop.Backs(f.next) {
		backs[edge]++
	}
	for _, x := range loop.Find(f.next) {
		f.loops[x.Head] = x.Body
	}
	for i, at := range dom.Order(f.next) {
		f.rank[at] = i
		if at != 0 {
			f.below[f.idom[at]] = append(f.below[f.idom[at]], at)
		}
		for _, to := range f.ways(at) {
			if backs[[2]int{at, to}] == 0 {
				f.doors[to]++
			}
		}
	}
	return f
}

// ways tells where one goes on to from a block; all labels of one arm are one way.
func (f *facts) ways(at int) []int {
	if f.l[at].End != api.OpSwitch {
		return f.next[at]
	}
	out := slices.Clone(f.next[at])
	slices.Sort(out)
	return slices.Compact(out)
}

func (f *facts) dominates(a, b int) bool {
	return dom.Dominates(f.idom, a, b)
}

// returns tells whether a block does nothing but to return.
func (f *facts) returns(at int) bool {
	return f.l[at].End == api.OpRet && Bare(f.l[at].Body)
}

func (f *facts) inLoop(head, at int) bool {
	_, found := slices.BinarySearch(f.loops[head], at)
	return found
}

// exits tells to which blocks one leaves a loop, that first which may best stand behind it.
func (f *facts) exits(head, next int) []int {
	var out []int
	for _, at := range f.loops[head] {
		for _, to := range f.next[at] {
			if !f.inLoop(head, to) {
				out = append(out, to)
			}
		}
	}
	slices.Sort(out)
	out = slices.Compact(out)
	better := func(at int) int {
		switch {
		case at == next:
			return 2 * len(f.l)
		case f.returns(at):
			return f.rank[at] - len(f.l)
		}
		return f.rank[at]
	}
	slices.SortFunc(out, func(a, b int) int { return better(b) - better(a) })
	if len(out) == 0 {
		return []int{nobody}
	}
	return out
}

// merges tells which blocks stand behind what a block branches into.
func (f *facts) merges(at int, owed []int) []int {
	var out []int
	for _, to := range f.below[at] {
		if f.doors[to] > 1 && owed[to] == 0 {
			out = append(out, to)
		}
	}
	for i := 0; i < len(out) && len(out) > 1; {
		if f.returns(out[i]) {
			out = slices.Delete(out, i, i+1)
		} else {
			i++
		}
	}
	return out
}
