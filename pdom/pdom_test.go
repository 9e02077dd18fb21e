package pdom

import (
	"reflect"
	"slices"
	"testing"
)

// ends tells whether one comes from a place to the end without going through another one.
func ends(next [][]int, from, without int) bool {
	if from == without {
		return false
	}
	met := map[int]int{from: 1}
	waits := []int{from}
	for len(waits) > 0 {
		at := waits[0]
		waits = waits[1:]
		goes := 0
		for _, to := range next[at] {
			if to >= 0 && to < len(next) {
				goes++
				if to != without && met[to] == 0 {
					met[to] = 1
					waits = append(waits, to)
				}
			}
		}
		if goes == 0 {
			return true
		}
	}
	return false
}

func graph(seed int) [][]int {
	x := uint32(seed)
	pick := func(n int) int { x = x*1664525 + 1013904223; return int(x>>16) % n }
	n := 1 + pick(8)
	next := make([][]int, n)
	for i := range next {
		for range pick(4) {
			next[i] = append(next[i], pick(n+1)-pick(2))
		}
	}
	return next
}

func TestTurned(t *testing.T) {
	got := Turned([][]int{{1, 2, 1}, {3}, {3, 9}, {-1}, {4}})
	want := [][]int{{4}, nil, {1}, {1}, {2, 3}, {5}}
	if !reflect.DeepEqual(got, want) {
		t.Error(got)
	}
	if got := Turned(nil); len(got) != 1 || len(got[0]) != 0 {
		t.Error("none")
	}
}

func TestExample(t *testing.T) {
	next := [][]int{{1, 2}, {3}, {3}, {}}
	if got := Nearest(next); !slices.Equal(got, []int{3, 3, 3, 4}) {
		t.Error(got)
	}
	if got := Nearest([][]int{{1, 2}, {1}, {}}); !slices.Equal(got, []int{2, -1, 3}) {
		t.Error(got)
	}
	rows := []struct {
		l    []int
		want int
	}{{nil, -1}, {[]int{1, 2}, 3}, {[]int{0}, 0}, {[]int{3, 0}, 3}, {[]int{4}, -1}, {[]int{0, -1}, -1}, {[]int{1, 4}, -1}, {[]int{2, 2}, 2}}
	for _, r := range rows {
		if got := Meets(next, r.l); got != r.want {
			t.Error(r, got)
		}
	}
	if Meets([][]int{{1, 2}, {}, {}}, []int{1, 2}) != 3 || Meets([][]int{{1, 2}, {1}, {}}, []int{0, 1}) != -1 || Meets(nil, []int{0}) != -1 {
		t.Error("meets")
	}
}

func TestAgainstTheWords(t *testing.T) {
	for seed := 1; seed < 800; seed++ {
		next := graph(seed)
		n := len(next)
		near, end := Nearest(next), Ends(next)
		post := func(a, b int) bool { return end[b] && (a == b || a == n || !ends(next, b, a)) }
		for b := range next {
			if end[b] != ends(next, b, -1) {
				t.Fatal("ends", seed, b)
			}
			if !end[b] {
				if near[b] != -1 {
					t.Fatal("none", seed, b)
				}
				continue
			}
			if near[b] == b || !post(near[b], b) {
				t.Fatal("nearest", seed, b)
			}
			for a := 0; a <= n; a++ {
				if a != b && post(a, b) && a != near[b] && (near[b] == n || !post(a, near[b])) {
					t.Fatal("all others", seed, a, b)
				}
			}
			var l []int
			all := true
			for _, to := range next[b] {
				if to >= 0 && to < n {
					l = append(l, to)
					all = all && end[to]
				}
			}
			if len(l) > 0 && all && Meets(next, l) != near[b] {
				t.Fatal("meets", seed, b, l)
			}
		}
	}
}
