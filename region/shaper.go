package region

import (
	"slices"

	"ladderback/api"
	"ladderback/stmt"
)

// How many blocks may be told, again and again where loops have several ways out.
const (
	trials   = 4000
	perBlock = 20
)

// stuck is what is thrown where there is no way on.
type stuck struct{}

// place is what statements stand in: the blocks to which one comes behind their end, by StExit and by StNext.
type place struct{ next, exit, turn int }

// shaper makes statements of lifted blocks.
type shaper struct {
	facts
	told []bool // which blocks stand already
	owed []int  // which will stand further out, later
	left int
}

// attempt tries something, and leaves all as it was if it doesn't succeed.
func (s *shaper) attempt(try func() []api.Stmt) (out []api.Stmt, ok bool) {
	told, owed := slices.Clone(s.told), slices.Clone(s.owed)
	defer func() {
		if x := recover(); x != nil {
			s.told, s.owed = told, owed
			out, ok = nil, false
		}
	}()
	return try(), true
}

// later does something while a block is to stand further out.
func (s *shaper) later(at int, do func() []api.Stmt) []api.Stmt {
	if at == nobody {
		return do()
	}
	s.owed[at]++
	out := do()
	s.owed[at]--
	return out
}

// block tells a block, and all that belongs to it.
func (s *shaper) block(n int, at place) []api.Stmt {
	if s.left--; s.left < 0 || s.told[n] || s.owed[n] > 0 {
		panic(stuck{})
	}
	if s.loops[n] != nil {
		return s.loop(n, at)
	}
	return s.inner(n, at)
}

// inner tells a block that is no loop's head, or stands in its loop already.
func (s *shaper) inner(n int, at place) []api.Stmt {
	s.told[n] = true
	return s.sequence(n, s.merges(n, s.owed), at)
}

// sequence tells a block, and behind it those at which its ways meet.
func (s *shaper) sequence(n int, merges []int, at place) []api.Stmt {
	if len(merges) == 0 {
		return append(slices.Clone(s.l[n].Body), s.branch(n, at)...)
	}
	last := merges[len(merges)-1]
	ahead := merges[:len(merges)-1]
	within := place{last, at.exit, at.turn}
	if len(ahead) > 0 {
		within = place{last, last, nobody}
	}
	out := s.later(last, func() []api.Stmt { return s.sequence(n, ahead, within) })
	if len(ahead) > 0 {
		// A loop of one turn, which ways that pass over the blocks between leave.
		if Falls(out) {
			out = append(out, api.Stmt{Kind: api.StExit})
		}
		out = []api.Stmt{{Kind: api.StLoop, Body: out}}
	}
	return append(out, s.block(last, at)...)
}

// goTo tells how one goes on to a block; ways are tried one behind the other.
func (s *shaper) goTo(to int, at place) []api.Stmt {
	jump := func(target int, l ...api.Stmt) func() ([]api.Stmt, bool) {
		return func() ([]api.Stmt, bool) { return l, target == to }
	}
	ways := []func() ([]api.Stmt, bool){
		jump(at.next),
		jump(at.turn, api.Stmt{Kind: api.StNext}),
		jump(at.exit, api.Stmt{Kind: api.StExit}),
		func() ([]api.Stmt, bool) {
			if s.doors[to] != 1 || s.told[to] || s.owed[to] > 0 {
				return nil, false
			}
			return s.block(to, at), true
		},
		func() ([]api.Stmt, bool) {
			b := s.l[to]
			return append(slices.Clone(b.Body), api.Stmt{Kind: api.StReturn, Cost: b.Cost}), s.returns(to)
		},
	}
	for _, way := range ways {
		if out, ok := way(); ok {
			return out
		}
	}
	panic(stuck{})
}

// branch tells how a block ends.
func (s *shaper) branch(n int, at place) []api.Stmt {
	b := s.l[n]
	switch b.End {
	case api.OpJump:
		var out []api.Stmt
		if b.Cost != 0 {
			out = append(out, api.Stmt{Kind: api.StSkip, Cost: b.Cost})
		}
		return append(out, s.goTo(b.Next[0], at)...)
	case api.OpFalse:
		return flat(api.Stmt{Kind: api.StIf, Cost: b.Cost, E: b.E, Body: s.goTo(b.Next[0], at), Else: s.goTo(b.Next[1], at)})
	case api.OpSwitch:
		return []api.Stmt{s.cases(b, at)}
	}
	return []api.Stmt{{Kind: api.StReturn, Cost: b.Cost}}
}

// flat puts that branch behind a condition that alone goes on there, if the other one doesn't.
func flat(x api.Stmt) []api.Stmt {
	body, other := x.Body, x.Else
	switch {
	case len(body) == 0 || len(other) == 0:
		return []api.Stmt{x}
	case !Falls(other) && (len(other) == 1 || Falls(body)):
		x.Body = nil
		return append([]api.Stmt{x}, body...)
	case !Falls(body):
		x.Else = nil
		return append([]api.Stmt{x}, other...)
	}
	return []api.Stmt{x}
}

func (s *shaper) cases(b api.Lifted, at place) api.Stmt {
	last := b.Next[len(b.Next)-1]
	x := api.Stmt{Kind: api.StCase, Cost: b.Cost, E: b.E}
	arms := map[int]int{}
	var targets []int
	for label, to := range b.Next[:len(b.Next)-1] {
		if to == last {
			continue
		}
		if label > stmt.Most {
			panic(stuck{})
		}
		if arms[to] == 0 {
			x.Arms = append(x.Arms, api.Arm{})
			arms[to] = len(x.Arms)
			targets = append(targets, to)
		}
		arm := &x.Arms[arms[to]-1]
		arm.Labels = append(arm.Labels, label)
	}
	for i, to := range targets {
		x.Arms[i].Body = s.goTo(to, at)
	}
	x.Else = s.goTo(last, at)
	return x
}

// loop tells a loop, and what stands behind it.
func (s *shaper) loop(n int, at place) []api.Stmt {
	for _, exit := range s.exits(n, at.next) {
		out, ok := s.attempt(func() []api.Stmt {
			body := s.later(exit, func() []api.Stmt { return s.inner(n, place{n, exit, n}) })
			return append([]api.Stmt{polished(body)}, s.behind(n, exit, at)...)
		})
		if ok {
			return out
		}
	}
	panic(stuck{})
}

// behind tells how one goes on behind a loop.
func (s *shaper) behind(head, exit int, at place) []api.Stmt {
	switch {
	case exit == nobody || exit == at.next:
		return nil
	case s.owed[exit] == 0 && !s.told[exit] && s.dominates(head, exit):
		return s.block(exit, at)
	}
	return s.goTo(exit, at)
}

// leaves tells whether statements are an StExit that costs nothing.
func leaves(l []api.Stmt) bool {
	return len(l) == 1 && l[0].Kind == api.StExit && l[0].Cost == 0
}

// polished tells the loop of a body, with its condition ahead or at the end, if it has one there.
func polished(body []api.Stmt) api.Stmt {
	if len(body) > 0 {
		first, last := body[0], body[len(body)-1]
		rest := body[:len(body)-1]
		switch {
		case first.Kind == api.StIf && leaves(first.Else) && len(first.Body) == 0:
			return api.Stmt{Kind: api.StWhile, Cost: first.Cost, E: first.E, Body: body[1:]}
		case last.Kind == api.StIf && leaves(last.Body) && len(last.Else) == 0 && !has(rest, api.StNext):
			return api.Stmt{Kind: api.StRepeat, Cost: last.Cost, E: last.E, Body: rest}
		}
	}
	return api.Stmt{Kind: api.StLoop, Body: body}
}
