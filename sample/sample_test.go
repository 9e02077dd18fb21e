package sample

import (
	"testing"

	"ladderback/api"
	"ladderback/eval"
	"ladderback/verify"
)

func TestSamplesAreRight(t *testing.T) {
	ends := map[int]int{}
	for seed := range 3000 {
		if f, e := eval.Check(Source(seed)); e != api.OK {
			t.Fatal("source", seed, f, e)
		}
		p := Prog(seed)
		if u, place, e := verify.Check(p); e != api.OK {
			t.Fatal("program", seed, u, place, e)
		}
		m, _ := eval.New(Source(seed))
		s, _, _, _ := m.Scan(m.Start(), New(seed).Inputs(), 5, 2000)
		ends[s.Fault]++
	}
	t.Log(ends)
}
