package loop

import (
	"reflect"
	"slices"
	"testing"

	"ladderback/dom"
)

const least, most = -1 << 63, 1<<63 - 1

func graph(seed int) [][]int {
	x := uint32(seed)
	pick := func(n int) int { x = x*1664525 + 1013904223; return int(x>>16) % n }
	n := 1 + pick(9)
	next := make([][]int, n)
	for i := range next {
		for range pick(4) {
			next[i] = append(next[i], pick(n+1)-pick(2))
		}
	}
	return next
}

func TestExamples(t *testing.T) {
	rows := []struct {
		next  [][]int
		backs [][2]int
		loops []Loop
	}{
		{nil, nil, nil}, {[][]int{{}}, nil, nil},
		{[][]int{{1}, {2}, {1, 3}, {}}, [][2]int{{2, 1}}, []Loop{{1, []int{1, 2}, -1}}},
		{[][]int{{0, 0}}, [][2]int{{0, 0}}, []Loop{{0, []int{0}, -1}}},
		{[][]int{{1, 2}, {2}, {1}}, nil, nil},
		{[][]int{{1}, {2, 4}, {2, 3}, {1}, {}}, [][2]int{{2, 2}, {3, 1}}, []Loop{{1, []int{1, 2, 3}, -1}, {2, []int{2}, 0}}},
		{[][]int{{1}, {2, 3}, {1, 0}, {1}}, [][2]int{{2, 0}, {2, 1}, {3, 1}}, []Loop{{0, []int{0, 1, 2, 3}, -1}, {1, []int{1, 2, 3}, 0}}},
		{[][]int{{1}, {}, {1, 2}}, nil, nil},
	}
	for i, r := range rows {
		if got := Backs(r.next); !reflect.DeepEqual(got, r.backs) {
			t.Error(i, got)
		}
		if got := Find(r.next); !reflect.DeepEqual(got, r.loops) {
			t.Error(i, got)
		}
	}
}

func TestInAndDepth(t *testing.T) {
	l := []Loop{{Body: []int{1, 2, 3}}, {Body: []int{3, 2}}, {Body: []int{2, 9}}}
	for _, r := range [][3]int{{1, 0, 1}, {2, 1, 3}, {3, 1, 2}, {9, 2, 1}, {0, -1, 0}, {-1, -1, 0}, {most, -1, 0}, {least, -1, 0}} {
		if In(l, r[0]) != r[1] || Depth(l, r[0]) != r[2] {
			t.Error(r)
		}
	}
	if In([]Loop{{Body: []int{2}}, {Body: []int{1, 2}}, {Body: []int{2, 7}}}, 2) != 0 || In([]Loop{{Body: []int{1, 2, 3}}, {Body: []int{2, 3}}, {Body: []int{2}}}, 2) != 2 {
		t.Error("the smallest")
	}
	if In(nil, 0) != -1 || Depth(nil, 0) != 0 {
		t.Error("none")
	}
}

func TestAgainstTheWords(t *testing.T) {
	for seed := 1; seed < 800; seed++ {
		next := graph(seed)
		order, sets := dom.Order(next), dom.Sets(next)
		var backs [][2]int
		for from := range next {
			for to := range next {
				if slices.Contains(order, from) && slices.Contains(next[from], to) && sets[from].Has(to) {
					backs = append(backs, [2]int{from, to})
				}
			}
		}
		if !reflect.DeepEqual(Backs(next), backs) {
			t.Fatal("backs", seed)
		}
		loops := Find(next)
		for i, x := range loops {
			if i > 0 && loops[i-1].Head >= x.Head || !slices.IsSorted(x.Body) {
				t.Fatal("rising", seed)
			}
			for at := range next {
				want := at == x.Head
				for _, e := range backs {
					want = want || e[1] == x.Head && slices.Contains(order, at) && comes(next, at, e[0], x.Head)
				}
				if slices.Contains(x.Body, at) != want {
					t.Fatal("body", seed, at)
				}
				if want && !sets[at].Has(x.Head) {
					t.Fatal("a head dominates its loop", seed)
				}
			}
			outer := -1
			for k, y := range loops {
				if k != i && slices.Contains(y.Body, x.Head) && (outer == -1 || len(y.Body) < len(loops[outer].Body)) {
					outer = k
				}
			}
			if x.Outer != outer {
				t.Fatal("outer", seed)
			}
			for k, y := range loops {
				common := 0
				for _, at := range x.Body {
					if slices.Contains(y.Body, at) {
						common++
					}
				}
				if i != k && common != 0 && common != len(x.Body) && common != len(y.Body) {
					t.Fatal("in common", seed)
				}
			}
		}
	}
}

// comes tells whether one comes from a to b without a head.
func comes(next [][]int, a, b, head int) bool {
	if a == head || b == head {
		return false
	}
	met := map[int]int{a: 1}
	waits := []int{a}
	for len(waits) > 0 {
		at := waits[0]
		waits = waits[1:]
		if at == b {
			return true
		}
		for _, to := range next[at] {
			if to >= 0 && to < len(next) && to != head && met[to] == 0 {
				met[to] = 1
				waits = append(waits, to)
			}
		}
	}
	return false
}
