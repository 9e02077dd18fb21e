package verify

import (
	"testing"

	"ladderback/api"
)

func unit(l ...api.Instr) api.Unit { return api.Unit{Code: append(l, api.Instr{Op: api.OpRet})} }

func TestCheck(t *testing.T) {
	ret := unit()
	call := func(u int) api.Instr { return api.Instr{Op: api.OpCall, A: u} }
	many := make([]api.Unit, api.MaxUnits+1)
	rows := []struct {
		p        api.Prog
		u, place int
		e        api.Errno
	}{
		{api.Prog{Units: []api.Unit{ret}}, -1, -1, api.OK},
		{api.Prog{}, -1, -1, api.ErrLimit}, {api.Prog{Units: many}, -1, -1, api.ErrLimit},
		{api.Prog{Consts: []api.Const{{}}, Units: []api.Unit{ret}}, -1, -1, api.ErrType},
		{api.Prog{Units: []api.Unit{{}}}, -1, -1, api.ErrLimit},
		{api.Prog{Units: []api.Unit{ret, unit(api.Instr{Op: api.OpGet})}}, 1, 0, api.ErrRef},
		{api.Prog{Units: []api.Unit{ret, unit(api.Instr{}, api.Instr{Op: api.OpPop})}}, 1, 1, api.ErrStack},
		{api.Prog{Units: []api.Unit{unit(api.Instr{Op: 99}), unit(api.Instr{Op: api.OpPop})}}, 0, 0, api.ErrOp},
		{api.Prog{Units: []api.Unit{ret, unit(call(2)), unit(call(1))}}, -1, -1, api.ErrCall},
		{api.Prog{Units: []api.Unit{unit(call(1)), unit(call(1))}}, -1, -1, api.ErrCall},
		{api.Prog{Units: []api.Unit{unit(call(1)), unit(call(1), api.Instr{Op: api.OpPop})}}, 1, 1, api.ErrStack},
		{api.Prog{Units: []api.Unit{unit(call(0))}}, 0, 0, api.ErrRef},
		{api.Prog{Units: []api.Unit{unit(call(1)), unit(api.Instr{Op: api.OpRet}, api.Instr{Op: api.OpNop})}}, -1, -1, api.OK},
		{api.Prog{Units: []api.Unit{{Code: []api.Instr{{}}}}}, 0, 0, api.ErrJump},
	}
	for i, r := range rows {
		u, place, e := Check(r.p)
		if u != r.u || place != r.place || e != r.e || Right(r.p) != (r.e == api.OK) {
			t.Error(i, u, place, e)
		}
		more := r.p
		more.Units = append(append([]api.Unit(nil), more.Units...), ret)
		more.Consts = append(append([]api.Const(nil), more.Consts...), api.Const{T: api.Int})
		if r.e == api.OK && !Right(more) {
			t.Error("more", i)
		}
	}
}
