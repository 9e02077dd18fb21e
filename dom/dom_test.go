package dom

import (
	"slices"
	"testing"
)

const least, most = -1 << 63, 1<<63 - 1

// reached tells what is reached without going through one place.
func reached(next [][]int, without int) []bool {
	out := make([]bool, len(next))
	if len(next) == 0 || without == 0 {
		return out
	}
	waits := []int{0}
	out[0] = true
	for len(waits) > 0 {
		at := waits[0]
		waits = waits[1:]
		for _, to := range next[at] {
			if to >= 0 && to < len(next) && to != without && !out[to] {
				out[to] = true
				waits = append(waits, to)
			}
		}
	}
	return out
}

func graph(seed int) [][]int {
	x := uint32(seed)
	pick := func(n int) int { x = x*1664525 + 1013904223; return int(x>>16) % n }
	n := 1 + pick(9)
	next := make([][]int, n)
	for i := range next {
		for range pick(4) {
			next[i] = append(next[i], pick(n+1)-pick(2))
		}
	}
	return next
}

func TestOrder(t *testing.T) {
	rows := []struct{ next, want [][]int }{
		{nil, [][]int{nil}}, {[][]int{{}}, [][]int{{0}}}, {[][]int{{1, 2}, {3}, {3}, {}}, [][]int{{0, 2, 1, 3}}}, {[][]int{{2, 1}, {3}, {3, 0}, {9, -1}}, [][]int{{0, 1, 2, 3}}}, {[][]int{{0, 1, 1}, {0}, {1}}, [][]int{{0, 1}}},
	}
	for i, r := range rows {
		if got := Order(r.next); !slices.Equal(got, r.want[0]) {
			t.Error(i, got)
		}
	}
}

func TestIdom(t *testing.T) {
	if got := Idom([][]int{{1, 2}, {3}, {3}, {}}); !slices.Equal(got, []int{-1, 0, 0, 0}) {
		t.Error(got)
	}
	if got := Idom([][]int{{1}, {2}, {1, 0}, {2}}); !slices.Equal(got, []int{-1, 0, 1, -1}) {
		t.Error(got)
	}
	if len(Idom(nil)) != 0 || len(Sets(nil)) != 0 {
		t.Error("none")
	}
}

func TestAgainstTheWords(t *testing.T) {
	for seed := 1; seed < 800; seed++ {
		next := graph(seed)
		all := reached(next, -1)
		idom, sets := Idom(next), Sets(next)
		for b := range next {
			if sets[b].Room() != len(next) {
				t.Fatal("room", seed)
			}
			for a := range next {
				want := all[b] && (a == b || !reached(next, a)[b])
				if sets[b].Has(a) != want {
					t.Fatal("set", seed, a, b)
				}
				if all[b] && Dominates(idom, a, b) != want {
					t.Fatal("dominates", seed, a, b)
				}
			}
			if !all[b] || b == 0 {
				if idom[b] != -1 {
					t.Fatal("none", seed, b)
				}
				continue
			}
			near := idom[b]
			for _, a := range sets[b].List() {
				if a != b && !sets[near].Has(a) || near == b || !sets[b].Has(near) {
					t.Fatal("nearest", seed, b)
				}
			}
		}
		order := Order(next)
		for b := range next {
			if all[b] != slices.Contains(order, b) {
				t.Fatal("order", seed)
			}
		}
	}
}

func TestDominates(t *testing.T) {
	idom := []int{-1, 0, 1, 4, 3, 9, 6}
	rows := []struct {
		a, b int
		want bool
	}{{0, 2, true}, {2, 2, true}, {2, 0, false}, {3, 4, true}, {0, 3, false}, {5, 5, true}, {0, 5, false}, {6, 6, true}, {0, 6, false}, {0, -1, false}, {-1, -1, false}, {7, 7, false}, {most, least, false}, {most, most, false}, {least, least, false}}
	for _, r := range rows {
		if Dominates(idom, r.a, r.b) != r.want {
			t.Error(r)
		}
	}
	if Dominates(nil, 0, 0) || Dominates(nil, -1, -1) {
		t.Error("nil")
	}
}

// What the list leads to need not be a place: one has come there all the same, and goes no further.
func TestDominatesBeyondThePlaces(t *testing.T) {
	rows := []struct {
		idom []int
		a, b int
		want bool
	}{
		{[]int{2, 0, 6}, 6, 0, true}, {[]int{2, 0, 6}, 6, 1, true}, {[]int{2, 0, 6}, 6, 2, true}, {[]int{2, 0, 6}, 1, 0, false}, {[]int{2, 0, 6}, 3, 0, false}, {[]int{2, 0, 6}, 6, 6, false},
		{[]int{1}, 1, 0, true}, {[]int{1}, 1, 1, false}, {[]int{1}, 2, 0, false}, {[]int{1, 2}, 2, 0, true},
		{[]int{-1, 0}, -1, 1, true}, {[]int{-1, 0}, -2, 1, false}, {[]int{-5, 0}, -5, 1, true}, {[]int{-5, 0}, -1, 1, false},
		{[]int{most, least}, most, 0, true}, {[]int{most, least}, least, 1, true}, {[]int{most, least}, least, 0, false},
	}
	for _, r := range rows {
		if Dominates(r.idom, r.a, r.b) != r.want {
			t.Error(r)
		}
	}
}

// Beside the words: all that one comes to, in as many steps as there are places.
func TestDominatesAnyList(t *testing.T) {
	x := uint32(7)
	pick := func(n int) int { x = x*1664525 + 1013904223; return int(x>>16) % n }
	for range 3000 {
		idom := make([]int, 1+pick(6))
		for i := range idom {
			idom[i] = pick(len(idom)+4) - 2
		}
		for b := -3; b < len(idom)+3; b++ {
			met := map[int]int{}
			at := b
			for steps := 0; steps <= len(idom) && b >= 0 && b < len(idom); steps++ {
				met[at]++
				if at < 0 || at >= len(idom) {
					break
				}
				at = idom[at]
			}
			for a := -3; a < len(idom)+3; a++ {
				if Dominates(idom, a, b) != (met[a] > 0) {
					t.Fatal(idom, a, b)
				}
			}
		}
	}
}

func TestLong(t *testing.T) {
	next := make([][]int, 200000)
	for i := range next {
		next[i] = []int{i + 1}
	}
	if idom := Idom(next); idom[199999] != 199998 {
		t.Error("long")
	}
}
