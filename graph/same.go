package graph

import (
	"ladderback/api"
	"ladderback/stmt"
)

// spin is the event behind a StSkip that never comes to another one.
const spin = -1

// reach is the event behind StSkip, and all costs on the way, with its own.
type reach struct{ at, cost int }

// behind tells of each event the one behind StSkip.
func behind(l []api.Event) []reach {
	const fresh, open, done = 0, 1, 2
	state := make([]int, len(l))
	out := make([]reach, len(l))
	for i := range l {
		var way []int
		at := i
		for l[at].S.Kind == api.StSkip && state[at] == fresh {
			state[at] = open
			way = append(way, at)
			at = l[at].Next[0]
		}
		if state[at] == open {
			out[at] = reach{at: spin}
		} else if state[at] == fresh {
			out[at] = reach{at, l[at].S.Cost}
			state[at] = done
		}
		end := out[at]
		for k := len(way) - 1; k >= 0; k-- {
			if end.at != spin {
				end.cost += l[way[k]].S.Cost
			}
			out[way[k]] = end
			state[way[k]] = done
		}
	}
	return out
}

// pairs are those of events that were met, and those of them that wait.
type pairs struct {
	met   map[[2]int]int
	waits [][2]int
}

func (p *pairs) meet(a, b int) {
	pair := [2]int{a, b}
	if p.met[pair] == 0 {
		p.met[pair] = 1
		p.waits = append(p.waits, pair)
	}
}

// Same tells whether both graphs go together.
func Same(a, b []api.Event) bool {
	if !Right(a) || !Right(b) {
		return false
	}
	reachA, reachB := behind(a), behind(b)
	p := &pairs{met: map[[2]int]int{}}
	p.meet(0, 0)
	for len(p.waits) > 0 {
		pair := p.waits[len(p.waits)-1]
		p.waits = p.waits[:len(p.waits)-1]
		x, y := reachA[pair[0]], reachB[pair[1]]
		if x.at == spin && y.at == spin {
			continue
		}
		if x.at == spin || y.at == spin || x.cost != y.cost || !alike(a[x.at].S, b[y.at].S) {
			return false
		}
		p.goOn(a[x.at].Next, b[y.at].Next)
	}
	return true
}

// alike tells whether two statements are the same but for costs.
func alike(x, y api.Stmt) bool {
	x.Cost, y.Cost = 0, 0
	return stmt.Same([]api.Stmt{x}, []api.Stmt{y})
}

// goOn meets the next ones of two events that are alike; the shorter list is that of a case with fewer labels.
func (p *pairs) goOn(a, b []int) {
	if len(a) == 0 || len(b) == 0 {
		return
	}
	next := func(l []int, k int) int { return l[min(k, len(l)-1)] }
	for k := range max(len(a), len(b)) {
		p.meet(next(a, k), next(b, k))
	}
}
