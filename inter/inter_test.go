package inter

import (
	"reflect"
	"slices"
	"testing"

	"ladderback/dom"
)

func graph(seed int) [][]int {
	x := uint32(seed)
	pick := func(n int) int { x = x*1664525 + 1013904223; return int(x>>16) % n }
	n := 1 + pick(8)
	next := make([][]int, n)
	for i := range next {
		for range pick(4) {
			next[i] = append(next[i], pick(n+1)-pick(2))
		}
	}
	return next
}

func TestExamples(t *testing.T) {
	rows := []struct {
		next, parts, derived [][]int
		tower                []int
		reducible            bool
	}{
		{nil, nil, [][]int{}, []int{0}, true},
		{[][]int{{}}, [][]int{{0}}, [][]int{nil}, []int{1}, true},
		{[][]int{{0}}, [][]int{{0}}, [][]int{nil}, []int{1}, true},
		{[][]int{{1, 2}, {2}, {1}}, [][]int{{0}, {1}, {2}}, [][]int{{1, 2}, {2}, {1}}, []int{3}, false},
		{[][]int{{1}, {2}, {1, 3}, {}}, [][]int{{0}, {1, 2, 3}}, [][]int{{1}, nil}, []int{4, 2, 1}, true},
		{[][]int{{2, 1}, {3, 1}, {3}, {}, {0}}, [][]int{{0, 1, 2, 3}}, [][]int{nil}, []int{4, 1}, true},
		{[][]int{{1, 9}, {0, -1}}, [][]int{{0, 1}}, [][]int{nil}, []int{2, 1}, true},
		{[][]int{{2, 1}, {2, 3}, {1, 3}, {0}}, [][]int{{0}, {1}, {2}, {3}}, [][]int{{1, 2}, {2, 3}, {1, 3}, {0}}, []int{4}, false},
	}
	for i, r := range rows {
		if got := Parts(r.next); !reflect.DeepEqual(got, r.parts) {
			t.Error("parts", i, got)
		}
		if got := Derive(r.next); !reflect.DeepEqual(got, r.derived) {
			t.Error("derived", i, got)
		}
		if got := Tower(r.next); !slices.Equal(got, r.tower) || Reducible(r.next) != r.reducible {
			t.Error("tower", i, got)
		}
	}
}

// circle tells whether the reached graph has a circle without its back edges.
func circle(next [][]int) bool {
	sets := dom.Sets(next)
	order := dom.Order(next)
	left := slices.Clone(order)
	for changed := true; changed; {
		changed = false
		for i, at := range left {
			goes := false
			for _, to := range next[at] {
				if slices.Contains(left, to) && !sets[at].Has(to) {
					goes = true
				}
			}
			if !goes {
				left = slices.Delete(slices.Clone(left), i, i+1)
				changed = true
				break
			}
		}
	}
	return len(left) > 0
}

// slowPart makes an interval by the words alone.
func slowPart(next [][]int, head int) []int {
	order := dom.Order(next)
	part := []int{head}
	for grown := true; grown; {
		grown = false
		for _, x := range order {
			if x == 0 || slices.Contains(part, x) {
				continue
			}
			all := true
			for _, from := range order {
				if slices.Contains(next[from], x) && from != x && !slices.Contains(part, from) {
					all = false
				}
			}
			if all {
				part = append(part, x)
				grown = true
			}
		}
	}
	slices.Sort(part[1:])
	return part
}

func TestAgainstTheWords(t *testing.T) {
	for seed := 1; seed < 1500; seed++ {
		next := graph(seed)
		if Reducible(next) == circle(next) {
			t.Fatal("reducible", seed, next)
		}
		in := make([]int, len(next))
		for _, l := range Parts(next) {
			if !slices.Equal(l, slowPart(next, l[0])) {
				t.Fatal("part", seed, next, l)
			}
			for _, at := range l {
				in[at]++
			}
		}
		for at, n := range in {
			if reached := slices.Contains(dom.Order(next), at); reached && n != 1 || !reached && n != 0 {
				t.Fatal("one interval", seed, at)
			}
		}
	}
}
