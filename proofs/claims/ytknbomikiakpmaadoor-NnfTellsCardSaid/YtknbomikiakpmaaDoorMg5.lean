/- Merged texts: NnV. -/
import Derived.Test.YtknbomikiakpmaaDoorMg0
import Derived.Test.YtknbomikiakpmaaDoorMg1
import Derived.BigRegion
import Derived.BigQuiet
/- Layer 43: the answer's normal form. -/
namespace Go.Proofs.YtknbomikiakpmaaDoor
open Go.RowKit
open NN
set_option linter.unusedSimpArgs false
set_option linter.unusedVariables false
set_option maxRecDepth 100000 in
theorem ref43_As_leaf (e : Ex) (h6 : e.op ≠ 6) (h7 : e.op ≠ 7) (w : World) (v : Value) (hv : ExV w v e) :
    Calls Tryd.prog 18 #[v] w fun r w' => ∃ z, r = .returned z ∧ ExV w' z e ∧ Below w.heap.size w w' := by
  obtain ⟨a, k, c, rfl⟩ := ex_form hv
  have HX := Lib.hid hv
  clear hv
  have q6 : (e.op == 6) = false := beq_eq_false_iff_ne.2 h6
  have q7 : (e.op != 7) = true := by simpa using h7
  obtain ⟨xo, xt, xn, xm, xl⟩ := e
  simp only at HX q6 q7 ⊢
  clear h6 h7
  go_enter Tryd.func18, Tryd.ntmps18
  go_wp2_with fail
  refine bodyPost_ret (by simp [results, Tryd.results18, go_sem, more_cell, more_size, more_frozen]; try rfl) rfl ?_
  exact ⟨_, rfl, HX.out.below (by (repeat' (first | (with_reducible exact Below.refl _ _) | (with_reducible assumption) | (with_reducible refine below_drewN ?_ _) | (with_reducible refine Below.alloc ?_ ?_ _) | (with_reducible refine Below.drew ?_) | (with_reducible refine Below.setCell ?_ ?_ _) | go_size))), by (repeat' (first | (with_reducible exact Below.refl _ _) | (with_reducible assumption) | (with_reducible refine below_drewN ?_ _) | (with_reducible refine Below.alloc ?_ ?_ _) | (with_reducible refine Below.drew ?_) | (with_reducible refine Below.setCell ?_ ?_ _) | go_size))⟩
set_option maxRecDepth 100000 in
theorem ref43_Turned_const (e : Ex) (h1 : e.op = 1) (hI : I64 (1 - e.n)) (w : World) (v : Value) (hv : ExV w v e) :
    Calls Tryd.prog 49 #[v] w fun r w' => ∃ z, r = .returned z ∧ ExV w' z ⟨1, e.t, 1 - e.n, 0, []⟩ ∧ Below w.heap.size w w' := by
  obtain ⟨a, k, c, rfl⟩ := ex_form hv
  have HX := Lib.hid hv
  clear hv
  obtain ⟨xo, xt, xn, xm, xl⟩ := e
  simp only at HX h1 hI ⊢
  subst h1
  have hw1 : IntKind.i64.wrap (1 - xn) = 1 - xn := IntWalk.i64_in _ hI
  have hw2 : wrap64 (1 - xn) = 1 - xn := by unfold I64 at hI; unfold wrap64; omega
  have HI := Lib.hid hI
  have HT := Lib.hid (show I64 xt from by obtain ⟨_, _, hi, _⟩ := HX.out; exact hi.2.1)
  clear hI
  go_enter Tryd.func49, Tryd.ntmps49
  go_wp2_with fail
  refine bodyPost_ret (by simp [results, Tryd.results49, go_sem, more_cell, more_size, more_frozen]; try rfl) rfl ?_
  exact ⟨_, rfl, exV_lit ⟨by unfold I64; omega, HT.out, HI.out, by unfold I64; omega⟩ row_none, by (repeat' (first | (with_reducible exact Below.refl _ _) | (with_reducible assumption) | (with_reducible refine below_drewN ?_ _) | (with_reducible refine Below.alloc ?_ ?_ _) | (with_reducible refine Below.drew ?_) | (with_reducible refine Below.setCell ?_ ?_ _) | go_size))⟩
set_option maxRecDepth 100000 in
theorem ref43_Turned_leaf (e : Ex) (h1 : e.op ≠ 1) (h6 : e.op ≠ 6) (h7 : e.op ≠ 7) (w : World) (v : Value) (hv : ExV w v e) :
    Calls Tryd.prog 49 #[v] w fun r w' => ∃ z, r = .returned z ∧ ExV w' z ⟨6, 0, 0, 17, [e]⟩ ∧ Below w.heap.size w w' := by
  obtain ⟨a, k, c, rfl⟩ := ex_form hv
  have HX := Lib.hid hv
  clear hv
  have q1 : (e.op == 1) = false := beq_eq_false_iff_ne.2 h1
  have q6 : (e.op == 6) = false := beq_eq_false_iff_ne.2 h6
  have q7 : (e.op != 7) = true := by simpa using h7
  obtain ⟨xo, xt, xn, xm, xl⟩ := e
  simp only at HX q1 q6 q7 ⊢
  clear h1 h6 h7
  go_enter Tryd.func49, Tryd.ntmps49
  go_wp2_with fail
  refine bodyPost_ret (by simp [results, Tryd.results49, go_sem, more_cell, more_size, more_frozen]; try rfl) rfl ?_
  have hB : Below w.heap.size w (((w.alloc (.cells #[.int .i64 xo, .int .i64 xt, .int .i64 xn, .int .i64 xm, .slice a k c] 37)).alloc (.cells #[.int .i64 6, .int .i64 0, .int .i64 0, .int .i64 17, .slice (some ⟨w.heap.size + 1 + 1, 0, none⟩) 1 1] 37)).alloc (.cells #[.int .i64 xo, .int .i64 xt, .int .i64 xn, .int .i64 xm, .slice a k c] 37)) := by (repeat' (first | (with_reducible exact Below.refl _ _) | (with_reducible assumption) | (with_reducible refine below_drewN ?_ _) | (with_reducible refine Below.alloc ?_ ?_ _) | (with_reducible refine Below.drew ?_) | (with_reducible refine Below.setCell ?_ ?_ _) | go_size))
  exact ⟨_, rfl, exV_lit ⟨by unfold I64; omega, by unfold I64; omega, by unfold I64; omega, by unfold I64; omega⟩ (row_ex1 (C := exC xo xt xn xm (.slice a k c)) (get_last (by simp)) rfl (exR_stable _ _ _ _ (exR_of HX.out) hB)), hB⟩
set_option maxRecDepth 100000 in
set_option maxHeartbeats 4000000 in
theorem ref43_As_un (x y : Ex) (hz : noZ y = true) (HT : ∀ w v, ExV w v x → Calls Tryd.prog 49 #[v] w fun r w' => ∃ z, r = .returned z ∧ ExV w' z y ∧ Below w.heap.size w w') (w : World) (v : Value) (hv : ExV w v ⟨6, 0, 0, 17, [x]⟩) :
    Calls Tryd.prog 18 #[v] w fun r w' => ∃ z, r = .returned z ∧ ExV w' z y ∧ Below w.heap.size w w' := by
  obtain ⟨sl, rfl, hr, hrow⟩ := hv
  simp only at hrow
  obtain ⟨sa, sc, rfl⟩ := row_get hrow
  obtain ⟨bx, ox, ss, sn, sc2, rfl, hbx, q1, q2, d0, d1, d2, d3, d4, dV⟩ := ex_at hrow (k := 0) (x := x) rfl
  have hl1 : ([x] : List Ex).length = 1 := rfl
  rw [hl1]
  clear hl1
  obtain ⟨W0, hW0⟩ : ∃ W0, W0 = (w.alloc (.cells #[.int .i64 6, .int .i64 0, .int .i64 0, .int .i64 17, .slice (some ⟨bx, ox, none⟩) 1 sc] 37)).alloc (.cells #[.int .i64 0, .int .i64 0, .int .i64 0, .int .i64 0, .slice none 0 0] 37) := ⟨_, rfl⟩
  have oE : W0.heap[w.heap.size]? = some (.cells #[.int .i64 6, .int .i64 0, .int .i64 0, .int .i64 17, .slice (some ⟨bx, ox, none⟩) 1 sc] 37) := by rw [hW0]; exact (get_past (by simp)).trans (get_last rfl)
  have oR : W0.heap[w.heap.size + 1]? = some (.cells #[.int .i64 0, .int .i64 0, .int .i64 0, .int .i64 0, .slice none 0 0] 37) := by rw [hW0]; exact get_last (by simp)
  have hbw : Below w.heap.size w W0 := by rw [hW0]; exact by (repeat' (first | (with_reducible exact Below.refl _ _) | (with_reducible assumption) | (with_reducible refine below_drewN ?_ _) | (with_reducible refine Below.alloc ?_ ?_ _) | (with_reducible refine Below.drew ?_) | (with_reducible refine Below.setCell ?_ ?_ _) | go_size))
  have HW0 := Lib.hid hW0
  have OR := Lib.hid oR
  have e0 := obj_cell oE (i := 0) rfl
  have e4 := obj_cell oE (i := 4) rfl
  have c0 : W0.cell? ⟨bx, ox, none⟩ = some (.int .i64 x.op) := (hbw.cell (p := ⟨bx, ox, none⟩) hbx).trans (by simpa using d0)
  have c1 : W0.cell? ⟨bx, ox + 1, none⟩ = some (.int .i64 x.t) := (hbw.cell (p := ⟨bx, ox + 1, none⟩) hbx).trans (by simpa using d1)
  have c2 : W0.cell? ⟨bx, ox + 2, none⟩ = some (.int .i64 x.n) := (hbw.cell (p := ⟨bx, ox + 2, none⟩) hbx).trans (by simpa using d2)
  have c3 : W0.cell? ⟨bx, ox + 3, none⟩ = some (.int .i64 x.m) := (hbw.cell (p := ⟨bx, ox + 3, none⟩) hbx).trans (by simpa using d3)
  have c4 : W0.cell? ⟨bx, ox + 4, none⟩ = some (.slice ss sn sc2) := (hbw.cell (p := ⟨bx, ox + 4, none⟩) hbx).trans (by simpa using d4)
  have HVx := Lib.hid (dV.below hbw)
  have HB := Lib.hid hbw
  have HT := Lib.hid HT
  have HZ := Lib.hid hz
  obtain ⟨xop, xt, xn, xm, xl⟩ := x
  simp only at c0 c1 c2 c3 HVx HT
  clear hW0 oE oR hbw d0 d1 d2 d3 d4 dV hr hrow q1 q2 hz
  go_enter Tryd.func18, Tryd.ntmps18
  go_upto_region 2 with fail
  rw [← HW0.out]
  go_wp2_with fail
  refine (HT.out _ _ HVx.out).mono ?_; rintro r w2 ⟨z, rfl, hz, hb⟩
  have HX := Lib.hid hz
  have OR2 := Lib.hid (obj_below OR.out hb (heap_lt OR.out))
  have HB2 := Lib.hid (HB.out.trans (hb.mono HB.out.size))
  obtain ⟨a, k, c, rfl⟩ := ex_form hz
  obtain ⟨f0, f1, f2, f3, f4⟩ := frozen5 OR2.out
  obtain ⟨g0, g1, g2, g3, g4⟩ := boxed_ex5 OR2.out
  have yr := heap_lt OR2.out
  clear hb hz e0 e4 c0 c1 c2 c3 c4
  go_wp2_with fail
  obtain ⟨w5, hW5, oo, HE, HB3⟩ := store_ex OR2.out HX.out HZ.out HB2.out (by omega)
  rw [← hW5]
  obtain ⟨e0, e1, e2, e3, e4⟩ := boxed_ex5 oo
  refine bodyPost_ret (by simp [results, Tryd.results18, go_sem, e0, e1, e2, e3, e4]; try rfl) rfl ?_
  exact ⟨_, rfl, HE, HB3⟩
set_option maxRecDepth 100000 in
set_option maxHeartbeats 4000000 in
theorem ref43_Turned_un (x y : Ex) (hz : noZ y = true) (HT : ∀ w v, ExV w v x → Calls Tryd.prog 18 #[v] w fun r w' => ∃ z, r = .returned z ∧ ExV w' z y ∧ Below w.heap.size w w') (w : World) (v : Value) (hv : ExV w v ⟨6, 0, 0, 17, [x]⟩) :
    Calls Tryd.prog 49 #[v] w fun r w' => ∃ z, r = .returned z ∧ ExV w' z y ∧ Below w.heap.size w w' := by
  obtain ⟨sl, rfl, hr, hrow⟩ := hv
  simp only at hrow
  obtain ⟨sa, sc, rfl⟩ := row_get hrow
  obtain ⟨bx, ox, ss, sn, sc2, rfl, hbx, q1, q2, d0, d1, d2, d3, d4, dV⟩ := ex_at hrow (k := 0) (x := x) rfl
  have hl1 : ([x] : List Ex).length = 1 := rfl
  rw [hl1]
  clear hl1
  obtain ⟨W0, hW0⟩ : ∃ W0, W0 = (w.alloc (.cells #[.int .i64 6, .int .i64 0, .int .i64 0, .int .i64 17, .slice (some ⟨bx, ox, none⟩) 1 sc] 37)).alloc (.cells #[.int .i64 0, .int .i64 0, .int .i64 0, .int .i64 0, .slice none 0 0] 37) := ⟨_, rfl⟩
  have oE : W0.heap[w.heap.size]? = some (.cells #[.int .i64 6, .int .i64 0, .int .i64 0, .int .i64 17, .slice (some ⟨bx, ox, none⟩) 1 sc] 37) := by rw [hW0]; exact (get_past (by simp)).trans (get_last rfl)
  have oR : W0.heap[w.heap.size + 1]? = some (.cells #[.int .i64 0, .int .i64 0, .int .i64 0, .int .i64 0, .slice none 0 0] 37) := by rw [hW0]; exact get_last (by simp)
  have hbw : Below w.heap.size w W0 := by rw [hW0]; exact by (repeat' (first | (with_reducible exact Below.refl _ _) | (with_reducible assumption) | (with_reducible refine below_drewN ?_ _) | (with_reducible refine Below.alloc ?_ ?_ _) | (with_reducible refine Below.drew ?_) | (with_reducible refine Below.setCell ?_ ?_ _) | go_size))
  have HW0 := Lib.hid hW0
  have OR := Lib.hid oR
  have e0 := obj_cell oE (i := 0) rfl
  have e4 := obj_cell oE (i := 4) rfl
  have c0 : W0.cell? ⟨bx, ox, none⟩ = some (.int .i64 x.op) := (hbw.cell (p := ⟨bx, ox, none⟩) hbx).trans (by simpa using d0)
  have c1 : W0.cell? ⟨bx, ox + 1, none⟩ = some (.int .i64 x.t) := (hbw.cell (p := ⟨bx, ox + 1, none⟩) hbx).trans (by simpa using d1)
  have c2 : W0.cell? ⟨bx, ox + 2, none⟩ = some (.int .i64 x.n) := (hbw.cell (p := ⟨bx, ox + 2, none⟩) hbx).trans (by simpa using d2)
  have c3 : W0.cell? ⟨bx, ox + 3, none⟩ = some (.int .i64 x.m) := (hbw.cell (p := ⟨bx, ox + 3, none⟩) hbx).trans (by simpa using d3)
  have c4 : W0.cell? ⟨bx, ox + 4, none⟩ = some (.slice ss sn sc2) := (hbw.cell (p := ⟨bx, ox + 4, none⟩) hbx).trans (by simpa using d4)
  have HVx := Lib.hid (dV.below hbw)
  have HB := Lib.hid hbw
  have HT := Lib.hid HT
  have HZ := Lib.hid hz
  obtain ⟨xop, xt, xn, xm, xl⟩ := x
  simp only at c0 c1 c2 c3 HVx HT
  clear hW0 oE oR hbw d0 d1 d2 d3 d4 dV hr hrow q1 q2 hz
  go_enter Tryd.func49, Tryd.ntmps49
  go_upto_region 4 with fail
  rw [← HW0.out]
  go_wp2_with fail
  refine (HT.out _ _ HVx.out).mono ?_; rintro r w2 ⟨z, rfl, hz, hb⟩
  have HX := Lib.hid hz
  have OR2 := Lib.hid (obj_below OR.out hb (heap_lt OR.out))
  have HB2 := Lib.hid (HB.out.trans (hb.mono HB.out.size))
  obtain ⟨a, k, c, rfl⟩ := ex_form hz
  obtain ⟨f0, f1, f2, f3, f4⟩ := frozen5 OR2.out
  obtain ⟨g0, g1, g2, g3, g4⟩ := boxed_ex5 OR2.out
  have yr := heap_lt OR2.out
  clear hb hz e0 e4 c0 c1 c2 c3 c4
  go_wp2_with fail
  obtain ⟨w5, hW5, oo, HE, HB3⟩ := store_ex OR2.out HX.out HZ.out HB2.out (by omega)
  rw [← hW5]
  obtain ⟨e0, e1, e2, e3, e4⟩ := boxed_ex5 oo
  refine bodyPost_ret (by simp [results, Tryd.results49, go_sem, e0, e1, e2, e3, e4]; try rfl) rfl ?_
  exact ⟨_, rfl, HE, HB3⟩
set_option maxRecDepth 100000 in
set_option maxHeartbeats 8000000 in
theorem ref43_As_14 (x y Aa Ab : Ex) (hz : noZ (binE 14 Aa Ab) = true) (HAa : ∀ w v, ExV w v x → Calls Tryd.prog 18 #[v] w fun r w' => ∃ z, r = .returned z ∧ ExV w' z Aa ∧ Below w.heap.size w w') (HAb : ∀ w v, ExV w v y → Calls Tryd.prog 18 #[v] w fun r w' => ∃ z, r = .returned z ∧ ExV w' z Ab ∧ Below w.heap.size w w') (w : World) (v : Value) (hv : ExV w v ⟨7, 0, 0, 14, [x, y]⟩) :
    Calls Tryd.prog 18 #[v] w fun r w' => ∃ z, r = .returned z ∧ ExV w' z (binE 14 Aa Ab) ∧ Below w.heap.size w w' := by
  obtain ⟨sl, rfl, hr, hrow⟩ := hv
  simp only at hrow
  obtain ⟨sa, sc, rfl⟩ := row_get hrow
  obtain ⟨bx, ox, ss, sn, sc2, rfl, hbx, q1, q2, d0, d1, d2, d3, d4, dV⟩ := ex_at hrow (k := 0) (x := x) rfl
  obtain ⟨_, _, ss', sn', sc2', hh, _, _, _, d5, d6, d7, d8, d9, dV'⟩ := ex_at hrow (k := 1) (x := y) rfl
  obtain ⟨rfl, rfl⟩ : bx = _ ∧ ox = _ := by injection hh with hh; injection hh with h1 h2; exact ⟨h1, h2⟩
  have hl2 : ([x, y] : List Ex).length = 2 := rfl
  rw [hl2]
  clear hl2 hh
  obtain ⟨W0, hW0⟩ : ∃ W0, W0 = (w.alloc (.cells #[.int .i64 7, .int .i64 0, .int .i64 0, .int .i64 14, .slice (some ⟨bx, ox, none⟩) 2 sc] 37)).alloc (.cells #[.int .i64 0, .int .i64 0, .int .i64 0, .int .i64 0, .slice none 0 0] 37) := ⟨_, rfl⟩
  have oE : W0.heap[w.heap.size]? = some (.cells #[.int .i64 7, .int .i64 0, .int .i64 0, .int .i64 14, .slice (some ⟨bx, ox, none⟩) 2 sc] 37) := by rw [hW0]; exact (get_past (by simp)).trans (get_last rfl)
  have oR : W0.heap[w.heap.size + 1]? = some (.cells #[.int .i64 0, .int .i64 0, .int .i64 0, .int .i64 0, .slice none 0 0] 37) := by rw [hW0]; exact get_last (by simp)
  have hbw : Below w.heap.size w W0 := by rw [hW0]; exact by (repeat' (first | (with_reducible exact Below.refl _ _) | (with_reducible assumption) | (with_reducible refine below_drewN ?_ _) | (with_reducible refine Below.alloc ?_ ?_ _) | (with_reducible refine Below.drew ?_) | (with_reducible refine Below.setCell ?_ ?_ _) | go_size))
  have HW0 := Lib.hid hW0
  have HVx := Lib.hid (fun W (hb : Below w.heap.size w W) => dV.below hb)
  have HVy := Lib.hid (fun W (hb : Below w.heap.size w W) => dV'.below hb)
  have c0 : W0.cell? ⟨bx, ox, none⟩ = some (.int .i64 x.op) := (hbw.cell (p := ⟨bx, ox, none⟩) hbx).trans (by simpa using d0)
  have c1 : W0.cell? ⟨bx, ox + 1, none⟩ = some (.int .i64 x.t) := (hbw.cell (p := ⟨bx, ox + 1, none⟩) hbx).trans (by simpa using d1)
  have c2 : W0.cell? ⟨bx, ox + 2, none⟩ = some (.int .i64 x.n) := (hbw.cell (p := ⟨bx, ox + 2, none⟩) hbx).trans (by simpa using d2)
  have c3 : W0.cell? ⟨bx, ox + 3, none⟩ = some (.int .i64 x.m) := (hbw.cell (p := ⟨bx, ox + 3, none⟩) hbx).trans (by simpa using d3)
  have c4 : W0.cell? ⟨bx, ox + 4, none⟩ = some (.slice ss sn sc2) := (hbw.cell (p := ⟨bx, ox + 4, none⟩) hbx).trans (by simpa using d4)
  have c5 : W0.cell? ⟨bx, ox + 5, none⟩ = some (.int .i64 y.op) := (hbw.cell (p := ⟨bx, ox + 5, none⟩) hbx).trans (by simpa using d5)
  have c6 : W0.cell? ⟨bx, ox + 5 + 1, none⟩ = some (.int .i64 y.t) := (hbw.cell (p := ⟨bx, ox + 5 + 1, none⟩) hbx).trans (by simpa using d6)
  have c7 : W0.cell? ⟨bx, ox + 5 + 2, none⟩ = some (.int .i64 y.n) := (hbw.cell (p := ⟨bx, ox + 5 + 2, none⟩) hbx).trans (by simpa using d7)
  have c8 : W0.cell? ⟨bx, ox + 5 + 3, none⟩ = some (.int .i64 y.m) := (hbw.cell (p := ⟨bx, ox + 5 + 3, none⟩) hbx).trans (by simpa using d8)
  have c9 : W0.cell? ⟨bx, ox + 5 + 4, none⟩ = some (.slice ss' sn' sc2') := (hbw.cell (p := ⟨bx, ox + 5 + 4, none⟩) hbx).trans (by simpa using d9)
  have e0 := obj_cell oE (i := 0) rfl
  have e3 := obj_cell oE (i := 3) rfl
  have e4 := obj_cell oE (i := 4) rfl
  have yb : bx < W0.heap.size := Nat.lt_of_lt_of_le hbx hbw.size
  have ye := heap_lt oE
  have yr := heap_lt oR
  have D := Lib.hid (And.intro d0 (And.intro d1 (And.intro d2 (And.intro d3 d4))))
  have D' := Lib.hid (And.intro d5 (And.intro d6 (And.intro d7 (And.intro d8 d9))))
  have HAa := Lib.hid HAa
  have HAb := Lib.hid HAb
  have HZ := Lib.hid hz
  have HOE := Lib.hid oE
  have HOR := Lib.hid oR
  have HB0 := Lib.hid hbw
  obtain ⟨xo, xt, xn, xm, xl⟩ := x
  obtain ⟨yo, yt, yn, ym, yl⟩ := y
  simp only at c0 c1 c2 c3 c5 c6 c7 c8 d0 d1 d2 d3 d5 d6 d7 d8 HVx HVy
  clear hW0 oE oR hbw dV dV' hr hrow q1 q2 hz
  go_enter Tryd.func18, Tryd.ntmps18
  go_upto_region 5 with fail
  rw [← HW0.out]
  go_upto_region 6 with fail
  have HOA := Lib.hid (show (W0.alloc (.cells #[.int .i64 xo, .int .i64 xt, .int .i64 xn, .int .i64 xm, .slice ss sn sc2] 37)).heap[W0.heap.size]? = some (.cells #[.int .i64 xo, .int .i64 xt, .int .i64 xn, .int .i64 xm, .slice ss sn sc2] 37) from get_last rfl)
  have hb1 : Below W0.heap.size W0 (W0.alloc (.cells #[.int .i64 xo, .int .i64 xt, .int .i64 xn, .int .i64 xm, .slice ss sn sc2] 37)) := by (repeat' (first | (with_reducible exact Below.refl _ _) | (with_reducible assumption) | (with_reducible refine below_drewN ?_ _) | (with_reducible refine Below.alloc ?_ ?_ _) | (with_reducible refine Below.drew ?_) | (with_reducible refine Below.setCell ?_ ?_ _) | go_size))
  generalize hW1 : W0.alloc (.cells #[.int .i64 xo, .int .i64 xt, .int .i64 xn, .int .i64 xm, .slice ss sn sc2] 37) = W1 at *
  have HOE1 := Lib.hid (obj_below HOE.out hb1 ye)
  have HOR1 := Lib.hid (obj_below HOR.out hb1 yr)
  have HB1 := Lib.hid (HB0.out.trans (hb1.mono HB0.out.size))
  clear c0 c1 c2 c3 c4 c5 c6 c7 c8 c9 e0 e3 e4 hW1 hb1
  have c0 : W1.cell? ⟨bx, ox, none⟩ = some (.int .i64 xo) := (HB1.out.cell (p := ⟨bx, ox, none⟩) hbx).trans (by simpa using d0)
  have c1 : W1.cell? ⟨bx, ox + 1, none⟩ = some (.int .i64 xt) := (HB1.out.cell (p := ⟨bx, ox + 1, none⟩) hbx).trans (by simpa using d1)
  have c2 : W1.cell? ⟨bx, ox + 2, none⟩ = some (.int .i64 xn) := (HB1.out.cell (p := ⟨bx, ox + 2, none⟩) hbx).trans (by simpa using d2)
  have c3 : W1.cell? ⟨bx, ox + 3, none⟩ = some (.int .i64 xm) := (HB1.out.cell (p := ⟨bx, ox + 3, none⟩) hbx).trans (by simpa using d3)
  have c4 : W1.cell? ⟨bx, ox + 4, none⟩ = some (.slice ss sn sc2) := (HB1.out.cell (p := ⟨bx, ox + 4, none⟩) hbx).trans (by simpa using d4)
  have c5 : W1.cell? ⟨bx, ox + 5, none⟩ = some (.int .i64 yo) := (HB1.out.cell (p := ⟨bx, ox + 5, none⟩) hbx).trans (by simpa using d5)
  have c6 : W1.cell? ⟨bx, ox + 5 + 1, none⟩ = some (.int .i64 yt) := (HB1.out.cell (p := ⟨bx, ox + 5 + 1, none⟩) hbx).trans (by simpa using d6)
  have c7 : W1.cell? ⟨bx, ox + 5 + 2, none⟩ = some (.int .i64 yn) := (HB1.out.cell (p := ⟨bx, ox + 5 + 2, none⟩) hbx).trans (by simpa using d7)
  have c8 : W1.cell? ⟨bx, ox + 5 + 3, none⟩ = some (.int .i64 ym) := (HB1.out.cell (p := ⟨bx, ox + 5 + 3, none⟩) hbx).trans (by simpa using d8)
  have c9 : W1.cell? ⟨bx, ox + 5 + 4, none⟩ = some (.slice ss' sn' sc2') := (HB1.out.cell (p := ⟨bx, ox + 5 + 4, none⟩) hbx).trans (by simpa using d9)
  have e0 := obj_cell HOE1.out (i := 0) rfl
  have e3 := obj_cell HOE1.out (i := 3) rfl
  have e4 := obj_cell HOE1.out (i := 4) rfl
  have ya := heap_lt HOA.out
  go_upto_region 7 with fail
  have HOB := Lib.hid (show (W1.alloc (.cells #[.int .i64 yo, .int .i64 yt, .int .i64 yn, .int .i64 ym, .slice ss' sn' sc2'] 37)).heap[W1.heap.size]? = some (.cells #[.int .i64 yo, .int .i64 yt, .int .i64 yn, .int .i64 ym, .slice ss' sn' sc2'] 37) from get_last rfl)
  have hb1 : Below W1.heap.size W1 (W1.alloc (.cells #[.int .i64 yo, .int .i64 yt, .int .i64 yn, .int .i64 ym, .slice ss' sn' sc2'] 37)) := by (repeat' (first | (with_reducible exact Below.refl _ _) | (with_reducible assumption) | (with_reducible refine below_drewN ?_ _) | (with_reducible refine Below.alloc ?_ ?_ _) | (with_reducible refine Below.drew ?_) | (with_reducible refine Below.setCell ?_ ?_ _) | go_size))
  generalize hW2 : W1.alloc (.cells #[.int .i64 yo, .int .i64 yt, .int .i64 yn, .int .i64 ym, .slice ss' sn' sc2'] 37) = W2 at *
  have HOE2 := Lib.hid (obj_below HOE1.out hb1 (heap_lt HOE1.out))
  have HOR2 := Lib.hid (obj_below HOR1.out hb1 (heap_lt HOR1.out))
  have HOA2 := Lib.hid (obj_below HOA.out hb1 ya)
  have HB2 := Lib.hid (HB1.out.trans (hb1.mono HB1.out.size))
  have n1 : w.heap.size + 1 ≠ w.heap.size := by omega
  have n2 : w.heap.size + 1 ≠ W0.heap.size := by omega
  have n3 : w.heap.size + 1 ≠ W1.heap.size := by have := heap_lt HOR1.out; omega
  have HN := Lib.hid (And.intro n1 (And.intro n2 n3))
  clear c0 c1 c2 c3 c4 c5 c6 c7 c8 c9 e0 e3 e4 hW2 hb1 n1 n2 n3 yb ye yr ya d0 d1 d2 d3 d4 d5 d6 d7 d8 d9 HOE HOR HOE1 HOR1 HB0 HB1 HOA D D' hbx
  have e0 := obj_cell HOE2.out (i := 0) rfl
  have e3 := obj_cell HOE2.out (i := 3) rfl
  go_upto_region 8 with fail
  clear e0 e3
  have R0 := Lib.hid (show W2.drew.heap[w.heap.size + 1]? = _ from HOR2.out)
  have B0 := Lib.hid (show Below w.heap.size w W2.drew from HB2.out.drew)
  have hT0 : ThreeAt w.heap.size W0.heap.size W1.heap.size _ _ _ W2.drew := ⟨HOE2.out, HOA2.out, HOB.out⟩
  clear HOE2 HOA2 HOB HOR2 HB2
  refine wp_region_held_drew (S := (fun w' => ThreeAt w.heap.size W0.heap.size W1.heap.size (.cells #[.int .i64 7, .int .i64 0, .int .i64 0, .int .i64 14, .slice (some ⟨bx, ox, none⟩) 2 sc] 37) (.cells #[.int .i64 xo, .int .i64 xt, .int .i64 xn, .int .i64 xm, .slice ss sn sc2] 37) (.cells #[.int .i64 yo, .int .i64 yt, .int .i64 yn, .int .i64 ym, .slice ss' sn' sc2'] 37) w')) (by kernel_rfl) ?_ (fun hHeld => ?_)
  · (try dsimp only); exact hT0
  refine tk 0 (v := ?_) (hy := ?_) (h := ?_); rotate_left
  · intro _ _; go_simp <;> with_reducible rfl
  try simp only [pu, pa, pz, ps]
  refine tk 1 (v := ?_) (hy := ?_) (h := ?_); rotate_left
  · intro wt hSw; (try dsimp only at hSw); have e3 := obj_cell hSw.e (i := 3) rfl; obtain ⟨a0, a1, a2, a3, a4⟩ := boxed_ex5 hSw.a; obtain ⟨b0, b1, b2, b3, b4⟩ := boxed_ex5 hSw.b; have za := heap_lt hSw.a; have zb := heap_lt hSw.b; go_simp <;> with_reducible rfl
  try simp only [pu, pa, pz, ps]
  refine tk 2 (v := ?_) (hy := ?_) (h := ?_); rotate_left
  · intro wt hSw; (try dsimp only at hSw); have e3 := obj_cell hSw.e (i := 3) rfl; obtain ⟨a0, a1, a2, a3, a4⟩ := boxed_ex5 hSw.a; obtain ⟨b0, b1, b2, b3, b4⟩ := boxed_ex5 hSw.b; have za := heap_lt hSw.a; have zb := heap_lt hSw.b; go_simp <;> with_reducible rfl
  try simp only [pu, pa, pz, ps]
  refine tk 4 (v := ?_) (hy := ?_) (h := ?_); rotate_left
  · intro wt hSw; (try dsimp only at hSw); have e3 := obj_cell hSw.e (i := 3) rfl; obtain ⟨a0, a1, a2, a3, a4⟩ := boxed_ex5 hSw.a; obtain ⟨b0, b1, b2, b3, b4⟩ := boxed_ex5 hSw.b; have za := heap_lt hSw.a; have zb := heap_lt hSw.b; go_simp <;> with_reducible rfl
  try simp only [pu, pa, pz, ps]
  refine wpAnyH_ready (rs := [3]) (by kernel_rfl) (by simp) ?_
  refine AllReadyH.cons (o := ⟨_, _, _, _, _, _⟩) rfl (fun K hK => ?_) AllReadyH.nil
  go_simp
  refine (HAa.out _ _ (HVx.out _ B0.out)).mono ?_; rintro r v1 ⟨z0, rfl, hz0, hb⟩; have hb1 := Lib.hid hb; clear hb
  go_wp2_with fail
  refine hK.out _ _ ?_ (fun hHeld => ?_)
  · (try dsimp only); exact hHeld.below hb1.out
  clear hK K
  have R1 := Lib.hid (obj_below R0.out hb1.out (heap_lt R0.out))
  have B1 := Lib.hid (B0.out.trans (hb1.out.mono B0.out.size))
  have Z0 := Lib.hid hz0
  clear hz0
  try simp only [pu, pa, pz, ps]
  refine wpAnyH_ready (rs := [5]) (by kernel_rfl) (by simp) ?_
  refine AllReadyH.cons (o := ⟨_, _, _, _, _, _⟩) rfl (fun K hK => ?_) AllReadyH.nil
  go_simp
  refine (HAb.out _ _ (HVy.out _ B1.out)).mono ?_; rintro r v2 ⟨z1, rfl, hz1, hb⟩; have hb2 := Lib.hid hb; clear hb
  go_wp2_with fail
  refine hK.out _ _ ?_ (fun hHeld => ?_)
  · (try dsimp only); exact hHeld.below hb2.out
  clear hK K
  have R2 := Lib.hid (obj_below R1.out hb2.out (heap_lt R1.out))
  have B2 := Lib.hid (B1.out.trans (hb2.out.mono B1.out.size))
  have Z1 := Lib.hid hz1
  have Z0 := Lib.hid (Z0.out.below hb2.out)
  clear hz1
  try simp only [pu, pa, pz, ps]
  refine wpAnyH_ready (rs := [6]) (by kernel_rfl) (by simp) ?_
  refine AllReadyH.cons (o := ⟨_, _, _, _, _, _⟩) rfl (fun K hK => ?_) AllReadyH.nil
  go_simp
  refine (ref43_both 14 _ _ _ _ _ (by unfold I64; omega) Z0.out Z1.out).mono ?_; rintro r v3 ⟨z2, rfl, hz2, hb⟩; have hb3 := Lib.hid hb; clear hb
  go_wp2_with fail
  refine hK.out _ _ ?_ (fun hHeld => ?_)
  · (try dsimp only); exact hHeld.below hb3.out
  clear hK K
  have R3 := Lib.hid (obj_below R2.out hb3.out (heap_lt R2.out))
  have B3 := Lib.hid (B2.out.trans (hb3.out.mono B2.out.size))
  have Z2 := Lib.hid hz2
  clear hz2
  obtain ⟨a, k, c, hzf⟩ := ex_form Z2.out
  rw [hzf] at Z2
  rw [hzf]
  clear hzf
  obtain ⟨f0, f1, f2, f3, f4⟩ := frozen5 R3.out
  obtain ⟨g0, g1, g2, g3, g4⟩ := boxed_ex5 R3.out
  have yr := heap_lt R3.out
  try simp only [pu, pa, pz, ps]
  refine wpAnyH_ready (rs := [7]) (by kernel_rfl) (by simp) ?_
  refine AllReadyH.cons (o := ⟨_, _, _, _, _, _⟩) rfl (fun K hK => ?_) AllReadyH.nil
  go_simp
  refine hK.out _ _ ?_ (fun hHeld => ?_)
  · (try dsimp only); exact hHeld.sets HN.out.1 HN.out.2.1 HN.out.2.2 _ _ _ _ _
  clear hK K
  try simp only [pu, pa, pz, ps]
  refine wpAnyH_done (by kernel_rfl) ?_ _
  clear hHeld
  go_wp2_with fail
  obtain ⟨y, hy⟩ : ∃ y, binE 14 Aa Ab = y := ⟨_, rfl⟩
  rw [hy] at Z2 HZ ⊢
  obtain ⟨w5, hW5, oo, HE, HB3⟩ := store_ex R3.out Z2.out HZ.out B3.out (by omega)
  rw [← hW5]
  obtain ⟨e0, e1, e2, e3, e4⟩ := boxed_ex5 oo
  refine bodyPost_ret (by simp [results, Tryd.results18, go_sem, e0, e1, e2, e3, e4]; try rfl) rfl ?_
  exact ⟨_, rfl, HE, HB3⟩
set_option maxRecDepth 100000 in
set_option maxHeartbeats 8000000 in
theorem ref43_As_15 (x y Aa Ab : Ex) (hz : noZ (binE 15 Aa Ab) = true) (HAa : ∀ w v, ExV w v x → Calls Tryd.prog 18 #[v] w fun r w' => ∃ z, r = .returned z ∧ ExV w' z Aa ∧ Below w.heap.size w w') (HAb : ∀ w v, ExV w v y → Calls Tryd.prog 18 #[v] w fun r w' => ∃ z, r = .returned z ∧ ExV w' z Ab ∧ Below w.heap.size w w') (w : World) (v : Value) (hv : ExV w v ⟨7, 0, 0, 15, [x, y]⟩) :
    Calls Tryd.prog 18 #[v] w fun r w' => ∃ z, r = .returned z ∧ ExV w' z (binE 15 Aa Ab) ∧ Below w.heap.size w w' := by
  obtain ⟨sl, rfl, hr, hrow⟩ := hv
  simp only at hrow
  obtain ⟨sa, sc, rfl⟩ := row_get hrow
  obtain ⟨bx, ox, ss, sn, sc2, rfl, hbx, q1, q2, d0, d1, d2, d3, d4, dV⟩ := ex_at hrow (k := 0) (x := x) rfl
  obtain ⟨_, _, ss', sn', sc2', hh, _, _, _, d5, d6, d7, d8, d9, dV'⟩ := ex_at hrow (k := 1) (x := y) rfl
  obtain ⟨rfl, rfl⟩ : bx = _ ∧ ox = _ := by injection hh with hh; injection hh with h1 h2; exact ⟨h1, h2⟩
  have hl2 : ([x, y] : List Ex).length = 2 := rfl
  rw [hl2]
  clear hl2 hh
  obtain ⟨W0, hW0⟩ : ∃ W0, W0 = (w.alloc (.cells #[.int .i64 7, .int .i64 0, .int .i64 0, .int .i64 15, .slice (some ⟨bx, ox, none⟩) 2 sc] 37)).alloc (.cells #[.int .i64 0, .int .i64 0, .int .i64 0, .int .i64 0, .slice none 0 0] 37) := ⟨_, rfl⟩
  have oE : W0.heap[w.heap.size]? = some (.cells #[.int .i64 7, .int .i64 0, .int .i64 0, .int .i64 15, .slice (some ⟨bx, ox, none⟩) 2 sc] 37) := by rw [hW0]; exact (get_past (by simp)).trans (get_last rfl)
  have oR : W0.heap[w.heap.size + 1]? = some (.cells #[.int .i64 0, .int .i64 0, .int .i64 0, .int .i64 0, .slice none 0 0] 37) := by rw [hW0]; exact get_last (by simp)
  have hbw : Below w.heap.size w W0 := by rw [hW0]; exact by (repeat' (first | (with_reducible exact Below.refl _ _) | (with_reducible assumption) | (with_reducible refine below_drewN ?_ _) | (with_reducible refine Below.alloc ?_ ?_ _) | (with_reducible refine Below.drew ?_) | (with_reducible refine Below.setCell ?_ ?_ _) | go_size))
  have HW0 := Lib.hid hW0
  have HVx := Lib.hid (fun W (hb : Below w.heap.size w W) => dV.below hb)
  have HVy := Lib.hid (fun W (hb : Below w.heap.size w W) => dV'.below hb)
  have c0 : W0.cell? ⟨bx, ox, none⟩ = some (.int .i64 x.op) := (hbw.cell (p := ⟨bx, ox, none⟩) hbx).trans (by simpa using d0)
  have c1 : W0.cell? ⟨bx, ox + 1, none⟩ = some (.int .i64 x.t) := (hbw.cell (p := ⟨bx, ox + 1, none⟩) hbx).trans (by simpa using d1)
  have c2 : W0.cell? ⟨bx, ox + 2, none⟩ = some (.int .i64 x.n) := (hbw.cell (p := ⟨bx, ox + 2, none⟩) hbx).trans (by simpa using d2)
  have c3 : W0.cell? ⟨bx, ox + 3, none⟩ = some (.int .i64 x.m) := (hbw.cell (p := ⟨bx, ox + 3, none⟩) hbx).trans (by simpa using d3)
  have c4 : W0.cell? ⟨bx, ox + 4, none⟩ = some (.slice ss sn sc2) := (hbw.cell (p := ⟨bx, ox + 4, none⟩) hbx).trans (by simpa using d4)
  have c5 : W0.cell? ⟨bx, ox + 5, none⟩ = some (.int .i64 y.op) := (hbw.cell (p := ⟨bx, ox + 5, none⟩) hbx).trans (by simpa using d5)
  have c6 : W0.cell? ⟨bx, ox + 5 + 1, none⟩ = some (.int .i64 y.t) := (hbw.cell (p := ⟨bx, ox + 5 + 1, none⟩) hbx).trans (by simpa using d6)
  have c7 : W0.cell? ⟨bx, ox + 5 + 2, none⟩ = some (.int .i64 y.n) := (hbw.cell (p := ⟨bx, ox + 5 + 2, none⟩) hbx).trans (by simpa using d7)
  have c8 : W0.cell? ⟨bx, ox + 5 + 3, none⟩ = some (.int .i64 y.m) := (hbw.cell (p := ⟨bx, ox + 5 + 3, none⟩) hbx).trans (by simpa using d8)
  have c9 : W0.cell? ⟨bx, ox + 5 + 4, none⟩ = some (.slice ss' sn' sc2') := (hbw.cell (p := ⟨bx, ox + 5 + 4, none⟩) hbx).trans (by simpa using d9)
  have e0 := obj_cell oE (i := 0) rfl
  have e3 := obj_cell oE (i := 3) rfl
  have e4 := obj_cell oE (i := 4) rfl
  have yb : bx < W0.heap.size := Nat.lt_of_lt_of_le hbx hbw.size
  have ye := heap_lt oE
  have yr := heap_lt oR
  have D := Lib.hid (And.intro d0 (And.intro d1 (And.intro d2 (And.intro d3 d4))))
  have D' := Lib.hid (And.intro d5 (And.intro d6 (And.intro d7 (And.intro d8 d9))))
  have HAa := Lib.hid HAa
  have HAb := Lib.hid HAb
  have HZ := Lib.hid hz
  have HOE := Lib.hid oE
  have HOR := Lib.hid oR
  have HB0 := Lib.hid hbw
  obtain ⟨xo, xt, xn, xm, xl⟩ := x
  obtain ⟨yo, yt, yn, ym, yl⟩ := y
  simp only at c0 c1 c2 c3 c5 c6 c7 c8 d0 d1 d2 d3 d5 d6 d7 d8 HVx HVy
  clear hW0 oE oR hbw dV dV' hr hrow q1 q2 hz
  go_enter Tryd.func18, Tryd.ntmps18
  go_upto_region 5 with fail
  rw [← HW0.out]
  go_upto_region 6 with fail
  have HOA := Lib.hid (show (W0.alloc (.cells #[.int .i64 xo, .int .i64 xt, .int .i64 xn, .int .i64 xm, .slice ss sn sc2] 37)).heap[W0.heap.size]? = some (.cells #[.int .i64 xo, .int .i64 xt, .int .i64 xn, .int .i64 xm, .slice ss sn sc2] 37) from get_last rfl)
  have hb1 : Below W0.heap.size W0 (W0.alloc (.cells #[.int .i64 xo, .int .i64 xt, .int .i64 xn, .int .i64 xm, .slice ss sn sc2] 37)) := by (repeat' (first | (with_reducible exact Below.refl _ _) | (with_reducible assumption) | (with_reducible refine below_drewN ?_ _) | (with_reducible refine Below.alloc ?_ ?_ _) | (with_reducible refine Below.drew ?_) | (with_reducible refine Below.setCell ?_ ?_ _) | go_size))
  generalize hW1 : W0.alloc (.cells #[.int .i64 xo, .int .i64 xt, .int .i64 xn, .int .i64 xm, .slice ss sn sc2] 37) = W1 at *
  have HOE1 := Lib.hid (obj_below HOE.out hb1 ye)
  have HOR1 := Lib.hid (obj_below HOR.out hb1 yr)
  have HB1 := Lib.hid (HB0.out.trans (hb1.mono HB0.out.size))
  clear c0 c1 c2 c3 c4 c5 c6 c7 c8 c9 e0 e3 e4 hW1 hb1
  have c0 : W1.cell? ⟨bx, ox, none⟩ = some (.int .i64 xo) := (HB1.out.cell (p := ⟨bx, ox, none⟩) hbx).trans (by simpa using d0)
  have c1 : W1.cell? ⟨bx, ox + 1, none⟩ = some (.int .i64 xt) := (HB1.out.cell (p := ⟨bx, ox + 1, none⟩) hbx).trans (by simpa using d1)
  have c2 : W1.cell? ⟨bx, ox + 2, none⟩ = some (.int .i64 xn) := (HB1.out.cell (p := ⟨bx, ox + 2, none⟩) hbx).trans (by simpa using d2)
  have c3 : W1.cell? ⟨bx, ox + 3, none⟩ = some (.int .i64 xm) := (HB1.out.cell (p := ⟨bx, ox + 3, none⟩) hbx).trans (by simpa using d3)
  have c4 : W1.cell? ⟨bx, ox + 4, none⟩ = some (.slice ss sn sc2) := (HB1.out.cell (p := ⟨bx, ox + 4, none⟩) hbx).trans (by simpa using d4)
  have c5 : W1.cell? ⟨bx, ox + 5, none⟩ = some (.int .i64 yo) := (HB1.out.cell (p := ⟨bx, ox + 5, none⟩) hbx).trans (by simpa using d5)
  have c6 : W1.cell? ⟨bx, ox + 5 + 1, none⟩ = some (.int .i64 yt) := (HB1.out.cell (p := ⟨bx, ox + 5 + 1, none⟩) hbx).trans (by simpa using d6)
  have c7 : W1.cell? ⟨bx, ox + 5 + 2, none⟩ = some (.int .i64 yn) := (HB1.out.cell (p := ⟨bx, ox + 5 + 2, none⟩) hbx).trans (by simpa using d7)
  have c8 : W1.cell? ⟨bx, ox + 5 + 3, none⟩ = some (.int .i64 ym) := (HB1.out.cell (p := ⟨bx, ox + 5 + 3, none⟩) hbx).trans (by simpa using d8)
  have c9 : W1.cell? ⟨bx, ox + 5 + 4, none⟩ = some (.slice ss' sn' sc2') := (HB1.out.cell (p := ⟨bx, ox + 5 + 4, none⟩) hbx).trans (by simpa using d9)
  have e0 := obj_cell HOE1.out (i := 0) rfl
  have e3 := obj_cell HOE1.out (i := 3) rfl
  have e4 := obj_cell HOE1.out (i := 4) rfl
  have ya := heap_lt HOA.out
  go_upto_region 7 with fail
  have HOB := Lib.hid (show (W1.alloc (.cells #[.int .i64 yo, .int .i64 yt, .int .i64 yn, .int .i64 ym, .slice ss' sn' sc2'] 37)).heap[W1.heap.size]? = some (.cells #[.int .i64 yo, .int .i64 yt, .int .i64 yn, .int .i64 ym, .slice ss' sn' sc2'] 37) from get_last rfl)
  have hb1 : Below W1.heap.size W1 (W1.alloc (.cells #[.int .i64 yo, .int .i64 yt, .int .i64 yn, .int .i64 ym, .slice ss' sn' sc2'] 37)) := by (repeat' (first | (with_reducible exact Below.refl _ _) | (with_reducible assumption) | (with_reducible refine below_drewN ?_ _) | (with_reducible refine Below.alloc ?_ ?_ _) | (with_reducible refine Below.drew ?_) | (with_reducible refine Below.setCell ?_ ?_ _) | go_size))
  generalize hW2 : W1.alloc (.cells #[.int .i64 yo, .int .i64 yt, .int .i64 yn, .int .i64 ym, .slice ss' sn' sc2'] 37) = W2 at *
  have HOE2 := Lib.hid (obj_below HOE1.out hb1 (heap_lt HOE1.out))
  have HOR2 := Lib.hid (obj_below HOR1.out hb1 (heap_lt HOR1.out))
  have HOA2 := Lib.hid (obj_below HOA.out hb1 ya)
  have HB2 := Lib.hid (HB1.out.trans (hb1.mono HB1.out.size))
  have n1 : w.heap.size + 1 ≠ w.heap.size := by omega
  have n2 : w.heap.size + 1 ≠ W0.heap.size := by omega
  have n3 : w.heap.size + 1 ≠ W1.heap.size := by have := heap_lt HOR1.out; omega
  have HN := Lib.hid (And.intro n1 (And.intro n2 n3))
  clear c0 c1 c2 c3 c4 c5 c6 c7 c8 c9 e0 e3 e4 hW2 hb1 n1 n2 n3 yb ye yr ya d0 d1 d2 d3 d4 d5 d6 d7 d8 d9 HOE HOR HOE1 HOR1 HB0 HB1 HOA D D' hbx
  have e0 := obj_cell HOE2.out (i := 0) rfl
  have e3 := obj_cell HOE2.out (i := 3) rfl
  go_upto_region 8 with fail
  clear e0 e3
  have R0 := Lib.hid (show W2.drew.heap[w.heap.size + 1]? = _ from HOR2.out)
  have B0 := Lib.hid (show Below w.heap.size w W2.drew from HB2.out.drew)
  have hT0 : ThreeAt w.heap.size W0.heap.size W1.heap.size _ _ _ W2.drew := ⟨HOE2.out, HOA2.out, HOB.out⟩
  clear HOE2 HOA2 HOB HOR2 HB2
  refine wp_region_held_drew (S := (fun w' => ThreeAt w.heap.size W0.heap.size W1.heap.size (.cells #[.int .i64 7, .int .i64 0, .int .i64 0, .int .i64 15, .slice (some ⟨bx, ox, none⟩) 2 sc] 37) (.cells #[.int .i64 xo, .int .i64 xt, .int .i64 xn, .int .i64 xm, .slice ss sn sc2] 37) (.cells #[.int .i64 yo, .int .i64 yt, .int .i64 yn, .int .i64 ym, .slice ss' sn' sc2'] 37) w')) (by kernel_rfl) ?_ (fun hHeld => ?_)
  · (try dsimp only); exact hT0
  refine tk 0 (v := ?_) (hy := ?_) (h := ?_); rotate_left
  · intro _ _; go_simp <;> with_reducible rfl
  try simp only [pu, pa, pz, ps]
  refine tk 1 (v := ?_) (hy := ?_) (h := ?_); rotate_left
  · intro wt hSw; (try dsimp only at hSw); have e3 := obj_cell hSw.e (i := 3) rfl; obtain ⟨a0, a1, a2, a3, a4⟩ := boxed_ex5 hSw.a; obtain ⟨b0, b1, b2, b3, b4⟩ := boxed_ex5 hSw.b; have za := heap_lt hSw.a; have zb := heap_lt hSw.b; go_simp <;> with_reducible rfl
  try simp only [pu, pa, pz, ps]
  refine tk 2 (v := ?_) (hy := ?_) (h := ?_); rotate_left
  · intro wt hSw; (try dsimp only at hSw); have e3 := obj_cell hSw.e (i := 3) rfl; obtain ⟨a0, a1, a2, a3, a4⟩ := boxed_ex5 hSw.a; obtain ⟨b0, b1, b2, b3, b4⟩ := boxed_ex5 hSw.b; have za := heap_lt hSw.a; have zb := heap_lt hSw.b; go_simp <;> with_reducible rfl
  try simp only [pu, pa, pz, ps]
  refine tk 4 (v := ?_) (hy := ?_) (h := ?_); rotate_left
  · intro wt hSw; (try dsimp only at hSw); have e3 := obj_cell hSw.e (i := 3) rfl; obtain ⟨a0, a1, a2, a3, a4⟩ := boxed_ex5 hSw.a; obtain ⟨b0, b1, b2, b3, b4⟩ := boxed_ex5 hSw.b; have za := heap_lt hSw.a; have zb := heap_lt hSw.b; go_simp <;> with_reducible rfl
  try simp only [pu, pa, pz, ps]
  refine wpAnyH_ready (rs := [3]) (by kernel_rfl) (by simp) ?_
  refine AllReadyH.cons (o := ⟨_, _, _, _, _, _⟩) rfl (fun K hK => ?_) AllReadyH.nil
  go_simp
  refine (HAa.out _ _ (HVx.out _ B0.out)).mono ?_; rintro r v1 ⟨z0, rfl, hz0, hb⟩; have hb1 := Lib.hid hb; clear hb
  go_wp2_with fail
  refine hK.out _ _ ?_ (fun hHeld => ?_)
  · (try dsimp only); exact hHeld.below hb1.out
  clear hK K
  have R1 := Lib.hid (obj_below R0.out hb1.out (heap_lt R0.out))
  have B1 := Lib.hid (B0.out.trans (hb1.out.mono B0.out.size))
  have Z0 := Lib.hid hz0
  clear hz0
  try simp only [pu, pa, pz, ps]
  refine wpAnyH_ready (rs := [5]) (by kernel_rfl) (by simp) ?_
  refine AllReadyH.cons (o := ⟨_, _, _, _, _, _⟩) rfl (fun K hK => ?_) AllReadyH.nil
  go_simp
  refine (HAb.out _ _ (HVy.out _ B1.out)).mono ?_; rintro r v2 ⟨z1, rfl, hz1, hb⟩; have hb2 := Lib.hid hb; clear hb
  go_wp2_with fail
  refine hK.out _ _ ?_ (fun hHeld => ?_)
  · (try dsimp only); exact hHeld.below hb2.out
  clear hK K
  have R2 := Lib.hid (obj_below R1.out hb2.out (heap_lt R1.out))
  have B2 := Lib.hid (B1.out.trans (hb2.out.mono B1.out.size))
  have Z1 := Lib.hid hz1
  have Z0 := Lib.hid (Z0.out.below hb2.out)
  clear hz1
  try simp only [pu, pa, pz, ps]
  refine wpAnyH_ready (rs := [6]) (by kernel_rfl) (by simp) ?_
  refine AllReadyH.cons (o := ⟨_, _, _, _, _, _⟩) rfl (fun K hK => ?_) AllReadyH.nil
  go_simp
  refine (ref43_both 15 _ _ _ _ _ (by unfold I64; omega) Z0.out Z1.out).mono ?_; rintro r v3 ⟨z2, rfl, hz2, hb⟩; have hb3 := Lib.hid hb; clear hb
  go_wp2_with fail
  refine hK.out _ _ ?_ (fun hHeld => ?_)
  · (try dsimp only); exact hHeld.below hb3.out
  clear hK K
  have R3 := Lib.hid (obj_below R2.out hb3.out (heap_lt R2.out))
  have B3 := Lib.hid (B2.out.trans (hb3.out.mono B2.out.size))
  have Z2 := Lib.hid hz2
  clear hz2
  obtain ⟨a, k, c, hzf⟩ := ex_form Z2.out
  rw [hzf] at Z2
  rw [hzf]
  clear hzf
  obtain ⟨f0, f1, f2, f3, f4⟩ := frozen5 R3.out
  obtain ⟨g0, g1, g2, g3, g4⟩ := boxed_ex5 R3.out
  have yr := heap_lt R3.out
  try simp only [pu, pa, pz, ps]
  refine wpAnyH_ready (rs := [7]) (by kernel_rfl) (by simp) ?_
  refine AllReadyH.cons (o := ⟨_, _, _, _, _, _⟩) rfl (fun K hK => ?_) AllReadyH.nil
  go_simp
  refine hK.out _ _ ?_ (fun hHeld => ?_)
  · (try dsimp only); exact hHeld.sets HN.out.1 HN.out.2.1 HN.out.2.2 _ _ _ _ _
  clear hK K
  try simp only [pu, pa, pz, ps]
  refine wpAnyH_done (by kernel_rfl) ?_ _
  clear hHeld
  go_wp2_with fail
  obtain ⟨y, hy⟩ : ∃ y, binE 15 Aa Ab = y := ⟨_, rfl⟩
  rw [hy] at Z2 HZ ⊢
  obtain ⟨w5, hW5, oo, HE, HB3⟩ := store_ex R3.out Z2.out HZ.out B3.out (by omega)
  rw [← hW5]
  obtain ⟨e0, e1, e2, e3, e4⟩ := boxed_ex5 oo
  refine bodyPost_ret (by simp [results, Tryd.results18, go_sem, e0, e1, e2, e3, e4]; try rfl) rfl ?_
  exact ⟨_, rfl, HE, HB3⟩
set_option maxRecDepth 100000 in
set_option maxHeartbeats 8000000 in
theorem ref43_As_20 (x y Aa Ab Ta Tb : Ex) (hz : noZ (binE 15 (binE 14 Aa Ab) (binE 14 Ta Tb)) = true) (HAa : ∀ w v, ExV w v x → Calls Tryd.prog 18 #[v] w fun r w' => ∃ z, r = .returned z ∧ ExV w' z Aa ∧ Below w.heap.size w w') (HAb : ∀ w v, ExV w v y → Calls Tryd.prog 18 #[v] w fun r w' => ∃ z, r = .returned z ∧ ExV w' z Ab ∧ Below w.heap.size w w') (HTa : ∀ w v, ExV w v x → Calls Tryd.prog 49 #[v] w fun r w' => ∃ z, r = .returned z ∧ ExV w' z Ta ∧ Below w.heap.size w w') (HTb : ∀ w v, ExV w v y → Calls Tryd.prog 49 #[v] w fun r w' => ∃ z, r = .returned z ∧ ExV w' z Tb ∧ Below w.heap.size w w') (w : World) (v : Value) (hv : ExV w v ⟨7, 0, 0, 20, [x, y]⟩) :
    Calls Tryd.prog 18 #[v] w fun r w' => ∃ z, r = .returned z ∧ ExV w' z (binE 15 (binE 14 Aa Ab) (binE 14 Ta Tb)) ∧ Below w.heap.size w w' := by
  obtain ⟨sl, rfl, hr, hrow⟩ := hv
  simp only at hrow
  obtain ⟨sa, sc, rfl⟩ := row_get hrow
  obtain ⟨bx, ox, ss, sn, sc2, rfl, hbx, q1, q2, d0, d1, d2, d3, d4, dV⟩ := ex_at hrow (k := 0) (x := x) rfl
  obtain ⟨_, _, ss', sn', sc2', hh, _, _, _, d5, d6, d7, d8, d9, dV'⟩ := ex_at hrow (k := 1) (x := y) rfl
  obtain ⟨rfl, rfl⟩ : bx = _ ∧ ox = _ := by injection hh with hh; injection hh with h1 h2; exact ⟨h1, h2⟩
  have hl2 : ([x, y] : List Ex).length = 2 := rfl
  rw [hl2]
  clear hl2 hh
  obtain ⟨W0, hW0⟩ : ∃ W0, W0 = (w.alloc (.cells #[.int .i64 7, .int .i64 0, .int .i64 0, .int .i64 20, .slice (some ⟨bx, ox, none⟩) 2 sc] 37)).alloc (.cells #[.int .i64 0, .int .i64 0, .int .i64 0, .int .i64 0, .slice none 0 0] 37) := ⟨_, rfl⟩
  have oE : W0.heap[w.heap.size]? = some (.cells #[.int .i64 7, .int .i64 0, .int .i64 0, .int .i64 20, .slice (some ⟨bx, ox, none⟩) 2 sc] 37) := by rw [hW0]; exact (get_past (by simp)).trans (get_last rfl)
  have oR : W0.heap[w.heap.size + 1]? = some (.cells #[.int .i64 0, .int .i64 0, .int .i64 0, .int .i64 0, .slice none 0 0] 37) := by rw [hW0]; exact get_last (by simp)
  have hbw : Below w.heap.size w W0 := by rw [hW0]; exact by (repeat' (first | (with_reducible exact Below.refl _ _) | (with_reducible assumption) | (with_reducible refine below_drewN ?_ _) | (with_reducible refine Below.alloc ?_ ?_ _) | (with_reducible refine Below.drew ?_) | (with_reducible refine Below.setCell ?_ ?_ _) | go_size))
  have HW0 := Lib.hid hW0
  have HVx := Lib.hid (fun W (hb : Below w.heap.size w W) => dV.below hb)
  have HVy := Lib.hid (fun W (hb : Below w.heap.size w W) => dV'.below hb)
  have c0 : W0.cell? ⟨bx, ox, none⟩ = some (.int .i64 x.op) := (hbw.cell (p := ⟨bx, ox, none⟩) hbx).trans (by simpa using d0)
  have c1 : W0.cell? ⟨bx, ox + 1, none⟩ = some (.int .i64 x.t) := (hbw.cell (p := ⟨bx, ox + 1, none⟩) hbx).trans (by simpa using d1)
  have c2 : W0.cell? ⟨bx, ox + 2, none⟩ = some (.int .i64 x.n) := (hbw.cell (p := ⟨bx, ox + 2, none⟩) hbx).trans (by simpa using d2)
  have c3 : W0.cell? ⟨bx, ox + 3, none⟩ = some (.int .i64 x.m) := (hbw.cell (p := ⟨bx, ox + 3, none⟩) hbx).trans (by simpa using d3)
  have c4 : W0.cell? ⟨bx, ox + 4, none⟩ = some (.slice ss sn sc2) := (hbw.cell (p := ⟨bx, ox + 4, none⟩) hbx).trans (by simpa using d4)
  have c5 : W0.cell? ⟨bx, ox + 5, none⟩ = some (.int .i64 y.op) := (hbw.cell (p := ⟨bx, ox + 5, none⟩) hbx).trans (by simpa using d5)
  have c6 : W0.cell? ⟨bx, ox + 5 + 1, none⟩ = some (.int .i64 y.t) := (hbw.cell (p := ⟨bx, ox + 5 + 1, none⟩) hbx).trans (by simpa using d6)
  have c7 : W0.cell? ⟨bx, ox + 5 + 2, none⟩ = some (.int .i64 y.n) := (hbw.cell (p := ⟨bx, ox + 5 + 2, none⟩) hbx).trans (by simpa using d7)
  have c8 : W0.cell? ⟨bx, ox + 5 + 3, none⟩ = some (.int .i64 y.m) := (hbw.cell (p := ⟨bx, ox + 5 + 3, none⟩) hbx).trans (by simpa using d8)
  have c9 : W0.cell? ⟨bx, ox + 5 + 4, none⟩ = some (.slice ss' sn' sc2') := (hbw.cell (p := ⟨bx, ox + 5 + 4, none⟩) hbx).trans (by simpa using d9)
  have e0 := obj_cell oE (i := 0) rfl
  have e3 := obj_cell oE (i := 3) rfl
  have e4 := obj_cell oE (i := 4) rfl
  have yb : bx < W0.heap.size := Nat.lt_of_lt_of_le hbx hbw.size
  have ye := heap_lt oE
  have yr := heap_lt oR
  have D := Lib.hid (And.intro d0 (And.intro d1 (And.intro d2 (And.intro d3 d4))))
  have D' := Lib.hid (And.intro d5 (And.intro d6 (And.intro d7 (And.intro d8 d9))))
  have HAa := Lib.hid HAa
  have HAb := Lib.hid HAb
  have HTa := Lib.hid HTa
  have HTb := Lib.hid HTb
  have HZ := Lib.hid hz
  have HOE := Lib.hid oE
  have HOR := Lib.hid oR
  have HB0 := Lib.hid hbw
  obtain ⟨xo, xt, xn, xm, xl⟩ := x
  obtain ⟨yo, yt, yn, ym, yl⟩ := y
  simp only at c0 c1 c2 c3 c5 c6 c7 c8 d0 d1 d2 d3 d5 d6 d7 d8 HVx HVy
  clear hW0 oE oR hbw dV dV' hr hrow q1 q2 hz
  go_enter Tryd.func18, Tryd.ntmps18
  go_upto_region 5 with fail
  rw [← HW0.out]
  go_upto_region 6 with fail
  have HOA := Lib.hid (show (W0.alloc (.cells #[.int .i64 xo, .int .i64 xt, .int .i64 xn, .int .i64 xm, .slice ss sn sc2] 37)).heap[W0.heap.size]? = some (.cells #[.int .i64 xo, .int .i64 xt, .int .i64 xn, .int .i64 xm, .slice ss sn sc2] 37) from get_last rfl)
  have hb1 : Below W0.heap.size W0 (W0.alloc (.cells #[.int .i64 xo, .int .i64 xt, .int .i64 xn, .int .i64 xm, .slice ss sn sc2] 37)) := by (repeat' (first | (with_reducible exact Below.refl _ _) | (with_reducible assumption) | (with_reducible refine below_drewN ?_ _) | (with_reducible refine Below.alloc ?_ ?_ _) | (with_reducible refine Below.drew ?_) | (with_reducible refine Below.setCell ?_ ?_ _) | go_size))
  generalize hW1 : W0.alloc (.cells #[.int .i64 xo, .int .i64 xt, .int .i64 xn, .int .i64 xm, .slice ss sn sc2] 37) = W1 at *
  have HOE1 := Lib.hid (obj_below HOE.out hb1 ye)
  have HOR1 := Lib.hid (obj_below HOR.out hb1 yr)
  have HB1 := Lib.hid (HB0.out.trans (hb1.mono HB0.out.size))
  clear c0 c1 c2 c3 c4 c5 c6 c7 c8 c9 e0 e3 e4 hW1 hb1
  have c0 : W1.cell? ⟨bx, ox, none⟩ = some (.int .i64 xo) := (HB1.out.cell (p := ⟨bx, ox, none⟩) hbx).trans (by simpa using d0)
  have c1 : W1.cell? ⟨bx, ox + 1, none⟩ = some (.int .i64 xt) := (HB1.out.cell (p := ⟨bx, ox + 1, none⟩) hbx).trans (by simpa using d1)
  have c2 : W1.cell? ⟨bx, ox + 2, none⟩ = some (.int .i64 xn) := (HB1.out.cell (p := ⟨bx, ox + 2, none⟩) hbx).trans (by simpa using d2)
  have c3 : W1.cell? ⟨bx, ox + 3, none⟩ = some (.int .i64 xm) := (HB1.out.cell (p := ⟨bx, ox + 3, none⟩) hbx).trans (by simpa using d3)
  have c4 : W1.cell? ⟨bx, ox + 4, none⟩ = some (.slice ss sn sc2) := (HB1.out.cell (p := ⟨bx, ox + 4, none⟩) hbx).trans (by simpa using d4)
  have c5 : W1.cell? ⟨bx, ox + 5, none⟩ = some (.int .i64 yo) := (HB1.out.cell (p := ⟨bx, ox + 5, none⟩) hbx).trans (by simpa using d5)
  have c6 : W1.cell? ⟨bx, ox + 5 + 1, none⟩ = some (.int .i64 yt) := (HB1.out.cell (p := ⟨bx, ox + 5 + 1, none⟩) hbx).trans (by simpa using d6)
  have c7 : W1.cell? ⟨bx, ox + 5 + 2, none⟩ = some (.int .i64 yn) := (HB1.out.cell (p := ⟨bx, ox + 5 + 2, none⟩) hbx).trans (by simpa using d7)
  have c8 : W1.cell? ⟨bx, ox + 5 + 3, none⟩ = some (.int .i64 ym) := (HB1.out.cell (p := ⟨bx, ox + 5 + 3, none⟩) hbx).trans (by simpa using d8)
  have c9 : W1.cell? ⟨bx, ox + 5 + 4, none⟩ = some (.slice ss' sn' sc2') := (HB1.out.cell (p := ⟨bx, ox + 5 + 4, none⟩) hbx).trans (by simpa using d9)
  have e0 := obj_cell HOE1.out (i := 0) rfl
  have e3 := obj_cell HOE1.out (i := 3) rfl
  have e4 := obj_cell HOE1.out (i := 4) rfl
  have ya := heap_lt HOA.out
  go_upto_region 7 with fail
  have HOB := Lib.hid (show (W1.alloc (.cells #[.int .i64 yo, .int .i64 yt, .int .i64 yn, .int .i64 ym, .slice ss' sn' sc2'] 37)).heap[W1.heap.size]? = some (.cells #[.int .i64 yo, .int .i64 yt, .int .i64 yn, .int .i64 ym, .slice ss' sn' sc2'] 37) from get_last rfl)
  have hb1 : Below W1.heap.size W1 (W1.alloc (.cells #[.int .i64 yo, .int .i64 yt, .int .i64 yn, .int .i64 ym, .slice ss' sn' sc2'] 37)) := by (repeat' (first | (with_reducible exact Below.refl _ _) | (with_reducible assumption) | (with_reducible refine below_drewN ?_ _) | (with_reducible refine Below.alloc ?_ ?_ _) | (with_reducible refine Below.drew ?_) | (with_reducible refine Below.setCell ?_ ?_ _) | go_size))
  generalize hW2 : W1.alloc (.cells #[.int .i64 yo, .int .i64 yt, .int .i64 yn, .int .i64 ym, .slice ss' sn' sc2'] 37) = W2 at *
  have HOE2 := Lib.hid (obj_below HOE1.out hb1 (heap_lt HOE1.out))
  have HOR2 := Lib.hid (obj_below HOR1.out hb1 (heap_lt HOR1.out))
  have HOA2 := Lib.hid (obj_below HOA.out hb1 ya)
  have HB2 := Lib.hid (HB1.out.trans (hb1.mono HB1.out.size))
  have n1 : w.heap.size + 1 ≠ w.heap.size := by omega
  have n2 : w.heap.size + 1 ≠ W0.heap.size := by omega
  have n3 : w.heap.size + 1 ≠ W1.heap.size := by have := heap_lt HOR1.out; omega
  have HN := Lib.hid (And.intro n1 (And.intro n2 n3))
  clear c0 c1 c2 c3 c4 c5 c6 c7 c8 c9 e0 e3 e4 hW2 hb1 n1 n2 n3 yb ye yr ya d0 d1 d2 d3 d4 d5 d6 d7 d8 d9 HOE HOR HOE1 HOR1 HB0 HB1 HOA D D' hbx
  have e0 := obj_cell HOE2.out (i := 0) rfl
  have e3 := obj_cell HOE2.out (i := 3) rfl
  go_upto_region 10 with fail
  clear e0 e3
  have R0 := Lib.hid (show W2.drew.heap[w.heap.size + 1]? = _ from HOR2.out)
  have B0 := Lib.hid (show Below w.heap.size w W2.drew from HB2.out.drew)
  have hT0 : ThreeAt w.heap.size W0.heap.size W1.heap.size _ _ _ W2.drew := ⟨HOE2.out, HOA2.out, HOB.out⟩
  clear HOE2 HOA2 HOB HOR2 HB2
  refine wp_region_held_drew (S := (fun w' => ThreeAt w.heap.size W0.heap.size W1.heap.size (.cells #[.int .i64 7, .int .i64 0, .int .i64 0, .int .i64 20, .slice (some ⟨bx, ox, none⟩) 2 sc] 37) (.cells #[.int .i64 xo, .int .i64 xt, .int .i64 xn, .int .i64 xm, .slice ss sn sc2] 37) (.cells #[.int .i64 yo, .int .i64 yt, .int .i64 yn, .int .i64 ym, .slice ss' sn' sc2'] 37) w')) (by kernel_rfl) ?_ (fun hHeld => ?_)
  · (try dsimp only); exact hT0
  refine tk 0 (v := ?_) (hy := ?_) (h := ?_); rotate_left
  · intro wt hSw; (try dsimp only at hSw); have e3 := obj_cell hSw.e (i := 3) rfl; obtain ⟨a0, a1, a2, a3, a4⟩ := boxed_ex5 hSw.a; obtain ⟨b0, b1, b2, b3, b4⟩ := boxed_ex5 hSw.b; have za := heap_lt hSw.a; have zb := heap_lt hSw.b; go_simp <;> with_reducible rfl
  try simp only [pu, pa, pz, ps]
  refine tk 2 (v := ?_) (hy := ?_) (h := ?_); rotate_left
  · intro wt hSw; (try dsimp only at hSw); have e3 := obj_cell hSw.e (i := 3) rfl; obtain ⟨a0, a1, a2, a3, a4⟩ := boxed_ex5 hSw.a; obtain ⟨b0, b1, b2, b3, b4⟩ := boxed_ex5 hSw.b; have za := heap_lt hSw.a; have zb := heap_lt hSw.b; go_simp <;> with_reducible rfl
  try simp only [pu, pa, pz, ps]
  refine tk 5 (v := ?_) (hy := ?_) (h := ?_); rotate_left
  · intro wt hSw; (try dsimp only at hSw); have e3 := obj_cell hSw.e (i := 3) rfl; obtain ⟨a0, a1, a2, a3, a4⟩ := boxed_ex5 hSw.a; obtain ⟨b0, b1, b2, b3, b4⟩ := boxed_ex5 hSw.b; have za := heap_lt hSw.a; have zb := heap_lt hSw.b; go_simp <;> with_reducible rfl
  try simp only [pu, pa, pz, ps]
  refine tk 7 (v := ?_) (hy := ?_) (h := ?_); rotate_left
  · intro wt hSw; (try dsimp only at hSw); have e3 := obj_cell hSw.e (i := 3) rfl; obtain ⟨a0, a1, a2, a3, a4⟩ := boxed_ex5 hSw.a; obtain ⟨b0, b1, b2, b3, b4⟩ := boxed_ex5 hSw.b; have za := heap_lt hSw.a; have zb := heap_lt hSw.b; go_simp <;> with_reducible rfl
  try simp only [pu, pa, pz, ps]
  refine wpAnyH_ready (rs := [1]) (by kernel_rfl) (by simp) ?_
  refine AllReadyH.cons (o := ⟨_, _, _, _, _, _⟩) rfl (fun K hK => ?_) AllReadyH.nil
  go_simp
  refine (HAa.out _ _ (HVx.out _ B0.out)).mono ?_; rintro r v1 ⟨z0, rfl, hz0, hb⟩; have hb1 := Lib.hid hb; clear hb
  go_wp2_with fail
  refine hK.out _ _ ?_ (fun hHeld => ?_)
  · (try dsimp only); exact hHeld.below hb1.out
  clear hK K
  have R1 := Lib.hid (obj_below R0.out hb1.out (heap_lt R0.out))
  have B1 := Lib.hid (B0.out.trans (hb1.out.mono B0.out.size))
  have Z0 := Lib.hid hz0
  clear hz0
  try simp only [pu, pa, pz, ps]
  refine wpAnyH_ready (rs := [3]) (by kernel_rfl) (by simp) ?_
  refine AllReadyH.cons (o := ⟨_, _, _, _, _, _⟩) rfl (fun K hK => ?_) AllReadyH.nil
  go_simp
  refine (HAb.out _ _ (HVy.out _ B1.out)).mono ?_; rintro r v2 ⟨z1, rfl, hz1, hb⟩; have hb2 := Lib.hid hb; clear hb
  go_wp2_with fail
  refine hK.out _ _ ?_ (fun hHeld => ?_)
  · (try dsimp only); exact hHeld.below hb2.out
  clear hK K
  have R2 := Lib.hid (obj_below R1.out hb2.out (heap_lt R1.out))
  have B2 := Lib.hid (B1.out.trans (hb2.out.mono B1.out.size))
  have Z1 := Lib.hid hz1
  have Z0 := Lib.hid (Z0.out.below hb2.out)
  clear hz1
  try simp only [pu, pa, pz, ps]
  refine wpAnyH_ready (rs := [4]) (by kernel_rfl) (by simp) ?_
  refine AllReadyH.cons (o := ⟨_, _, _, _, _, _⟩) rfl (fun K hK => ?_) AllReadyH.nil
  go_simp
  refine (ref43_both 14 _ _ _ _ _ (by unfold I64; omega) Z0.out Z1.out).mono ?_; rintro r v3 ⟨z2, rfl, hz2, hb⟩; have hb3 := Lib.hid hb; clear hb
  go_wp2_with fail
  refine hK.out _ _ ?_ (fun hHeld => ?_)
  · (try dsimp only); exact hHeld.below hb3.out
  clear hK K
  have R3 := Lib.hid (obj_below R2.out hb3.out (heap_lt R2.out))
  have B3 := Lib.hid (B2.out.trans (hb3.out.mono B2.out.size))
  have Z2 := Lib.hid hz2
  clear hz2
  try simp only [pu, pa, pz, ps]
  refine wpAnyH_ready (rs := [6]) (by kernel_rfl) (by simp) ?_
  refine AllReadyH.cons (o := ⟨_, _, _, _, _, _⟩) rfl (fun K hK => ?_) AllReadyH.nil
  go_simp
  refine (HTa.out _ _ (HVx.out _ B3.out)).mono ?_; rintro r v4 ⟨z3, rfl, hz3, hb⟩; have hb4 := Lib.hid hb; clear hb
  go_wp2_with fail
  refine hK.out _ _ ?_ (fun hHeld => ?_)
  · (try dsimp only); exact hHeld.below hb4.out
  clear hK K
  have R4 := Lib.hid (obj_below R3.out hb4.out (heap_lt R3.out))
  have B4 := Lib.hid (B3.out.trans (hb4.out.mono B3.out.size))
  have Z3 := Lib.hid hz3
  have Z2 := Lib.hid (Z2.out.below hb4.out)
  clear hz3
  try simp only [pu, pa, pz, ps]
  refine wpAnyH_ready (rs := [8]) (by kernel_rfl) (by simp) ?_
  refine AllReadyH.cons (o := ⟨_, _, _, _, _, _⟩) rfl (fun K hK => ?_) AllReadyH.nil
  go_simp
  refine (HTb.out _ _ (HVy.out _ B4.out)).mono ?_; rintro r v5 ⟨z4, rfl, hz4, hb⟩; have hb5 := Lib.hid hb; clear hb
  go_wp2_with fail
  refine hK.out _ _ ?_ (fun hHeld => ?_)
  · (try dsimp only); exact hHeld.below hb5.out
  clear hK K
  have R5 := Lib.hid (obj_below R4.out hb5.out (heap_lt R4.out))
  have B5 := Lib.hid (B4.out.trans (hb5.out.mono B4.out.size))
  have Z4 := Lib.hid hz4
  have Z2 := Lib.hid (Z2.out.below hb5.out)
  have Z3 := Lib.hid (Z3.out.below hb5.out)
  clear hz4
  try simp only [pu, pa, pz, ps]
  refine wpAnyH_ready (rs := [9]) (by kernel_rfl) (by simp) ?_
  refine AllReadyH.cons (o := ⟨_, _, _, _, _, _⟩) rfl (fun K hK => ?_) AllReadyH.nil
  go_simp
  refine (ref43_both 14 _ _ _ _ _ (by unfold I64; omega) Z3.out Z4.out).mono ?_; rintro r v6 ⟨z5, rfl, hz5, hb⟩; have hb6 := Lib.hid hb; clear hb
  go_wp2_with fail
  refine hK.out _ _ ?_ (fun hHeld => ?_)
  · (try dsimp only); exact hHeld.below hb6.out
  clear hK K
  have R6 := Lib.hid (obj_below R5.out hb6.out (heap_lt R5.out))
  have B6 := Lib.hid (B5.out.trans (hb6.out.mono B5.out.size))
  have Z5 := Lib.hid hz5
  have Z2 := Lib.hid (Z2.out.below hb6.out)
  clear hz5
  try simp only [pu, pa, pz, ps]
  refine wpAnyH_ready (rs := [10]) (by kernel_rfl) (by simp) ?_
  refine AllReadyH.cons (o := ⟨_, _, _, _, _, _⟩) rfl (fun K hK => ?_) AllReadyH.nil
  go_simp
  refine (ref43_both 15 _ _ _ _ _ (by unfold I64; omega) Z2.out Z5.out).mono ?_; rintro r v7 ⟨z6, rfl, hz6, hb⟩; have hb7 := Lib.hid hb; clear hb
  go_wp2_with fail
  refine hK.out _ _ ?_ (fun hHeld => ?_)
  · (try dsimp only); exact hHeld.below hb7.out
  clear hK K
  have R7 := Lib.hid (obj_below R6.out hb7.out (heap_lt R6.out))
  have B7 := Lib.hid (B6.out.trans (hb7.out.mono B6.out.size))
  have Z6 := Lib.hid hz6
  clear hz6
  obtain ⟨a, k, c, hzf⟩ := ex_form Z6.out
  rw [hzf] at Z6
  rw [hzf]
  clear hzf
  obtain ⟨f0, f1, f2, f3, f4⟩ := frozen5 R7.out
  obtain ⟨g0, g1, g2, g3, g4⟩ := boxed_ex5 R7.out
  have yr := heap_lt R7.out
  try simp only [pu, pa, pz, ps]
  refine wpAnyH_ready (rs := [11]) (by kernel_rfl) (by simp) ?_
  refine AllReadyH.cons (o := ⟨_, _, _, _, _, _⟩) rfl (fun K hK => ?_) AllReadyH.nil
  go_simp
  refine hK.out _ _ ?_ (fun hHeld => ?_)
  · (try dsimp only); exact hHeld.sets HN.out.1 HN.out.2.1 HN.out.2.2 _ _ _ _ _
  clear hK K
  try simp only [pu, pa, pz, ps]
  refine wpAnyH_done (by kernel_rfl) ?_ _
  clear hHeld
  go_wp2_with fail
  obtain ⟨y, hy⟩ : ∃ y, binE 15 (binE 14 Aa Ab) (binE 14 Ta Tb) = y := ⟨_, rfl⟩
  rw [hy] at Z6 HZ ⊢
  obtain ⟨w5, hW5, oo, HE, HB3⟩ := store_ex R7.out Z6.out HZ.out B7.out (by omega)
  rw [← hW5]
  obtain ⟨e0, e1, e2, e3, e4⟩ := boxed_ex5 oo
  refine bodyPost_ret (by simp [results, Tryd.results18, go_sem, e0, e1, e2, e3, e4]; try rfl) rfl ?_
  exact ⟨_, rfl, HE, HB3⟩
set_option maxRecDepth 100000 in
set_option maxHeartbeats 8000000 in
theorem ref43_As_ne (x y Aa Ab Ta Tb : Ex) (m : Int) (q14 : (m == 14) = false) (q15 : (m == 15) = false) (q20 : (m == 20) = false) (hz : noZ (binE 15 (binE 14 Aa Tb) (binE 14 Ta Ab)) = true) (HAa : ∀ w v, ExV w v x → Calls Tryd.prog 18 #[v] w fun r w' => ∃ z, r = .returned z ∧ ExV w' z Aa ∧ Below w.heap.size w w') (HAb : ∀ w v, ExV w v y → Calls Tryd.prog 18 #[v] w fun r w' => ∃ z, r = .returned z ∧ ExV w' z Ab ∧ Below w.heap.size w w') (HTa : ∀ w v, ExV w v x → Calls Tryd.prog 49 #[v] w fun r w' => ∃ z, r = .returned z ∧ ExV w' z Ta ∧ Below w.heap.size w w') (HTb : ∀ w v, ExV w v y → Calls Tryd.prog 49 #[v] w fun r w' => ∃ z, r = .returned z ∧ ExV w' z Tb ∧ Below w.heap.size w w') (w : World) (v : Value) (hv : ExV w v ⟨7, 0, 0, m, [x, y]⟩) :
    Calls Tryd.prog 18 #[v] w fun r w' => ∃ z, r = .returned z ∧ ExV w' z (binE 15 (binE 14 Aa Tb) (binE 14 Ta Ab)) ∧ Below w.heap.size w w' := by
  obtain ⟨sl, rfl, hr, hrow⟩ := hv
  simp only at hrow
  obtain ⟨sa, sc, rfl⟩ := row_get hrow
  obtain ⟨bx, ox, ss, sn, sc2, rfl, hbx, q1, q2, d0, d1, d2, d3, d4, dV⟩ := ex_at hrow (k := 0) (x := x) rfl
  obtain ⟨_, _, ss', sn', sc2', hh, _, _, _, d5, d6, d7, d8, d9, dV'⟩ := ex_at hrow (k := 1) (x := y) rfl
  obtain ⟨rfl, rfl⟩ : bx = _ ∧ ox = _ := by injection hh with hh; injection hh with h1 h2; exact ⟨h1, h2⟩
  have hl2 : ([x, y] : List Ex).length = 2 := rfl
  rw [hl2]
  clear hl2 hh
  obtain ⟨W0, hW0⟩ : ∃ W0, W0 = (w.alloc (.cells #[.int .i64 7, .int .i64 0, .int .i64 0, .int .i64 m, .slice (some ⟨bx, ox, none⟩) 2 sc] 37)).alloc (.cells #[.int .i64 0, .int .i64 0, .int .i64 0, .int .i64 0, .slice none 0 0] 37) := ⟨_, rfl⟩
  have oE : W0.heap[w.heap.size]? = some (.cells #[.int .i64 7, .int .i64 0, .int .i64 0, .int .i64 m, .slice (some ⟨bx, ox, none⟩) 2 sc] 37) := by rw [hW0]; exact (get_past (by simp)).trans (get_last rfl)
  have oR : W0.heap[w.heap.size + 1]? = some (.cells #[.int .i64 0, .int .i64 0, .int .i64 0, .int .i64 0, .slice none 0 0] 37) := by rw [hW0]; exact get_last (by simp)
  have hbw : Below w.heap.size w W0 := by rw [hW0]; exact by (repeat' (first | (with_reducible exact Below.refl _ _) | (with_reducible assumption) | (with_reducible refine below_drewN ?_ _) | (with_reducible refine Below.alloc ?_ ?_ _) | (with_reducible refine Below.drew ?_) | (with_reducible refine Below.setCell ?_ ?_ _) | go_size))
  have HW0 := Lib.hid hW0
  have HVx := Lib.hid (fun W (hb : Below w.heap.size w W) => dV.below hb)
  have HVy := Lib.hid (fun W (hb : Below w.heap.size w W) => dV'.below hb)
  have c0 : W0.cell? ⟨bx, ox, none⟩ = some (.int .i64 x.op) := (hbw.cell (p := ⟨bx, ox, none⟩) hbx).trans (by simpa using d0)
  have c1 : W0.cell? ⟨bx, ox + 1, none⟩ = some (.int .i64 x.t) := (hbw.cell (p := ⟨bx, ox + 1, none⟩) hbx).trans (by simpa using d1)
  have c2 : W0.cell? ⟨bx, ox + 2, none⟩ = some (.int .i64 x.n) := (hbw.cell (p := ⟨bx, ox + 2, none⟩) hbx).trans (by simpa using d2)
  have c3 : W0.cell? ⟨bx, ox + 3, none⟩ = some (.int .i64 x.m) := (hbw.cell (p := ⟨bx, ox + 3, none⟩) hbx).trans (by simpa using d3)
  have c4 : W0.cell? ⟨bx, ox + 4, none⟩ = some (.slice ss sn sc2) := (hbw.cell (p := ⟨bx, ox + 4, none⟩) hbx).trans (by simpa using d4)
  have c5 : W0.cell? ⟨bx, ox + 5, none⟩ = some (.int .i64 y.op) := (hbw.cell (p := ⟨bx, ox + 5, none⟩) hbx).trans (by simpa using d5)
  have c6 : W0.cell? ⟨bx, ox + 5 + 1, none⟩ = some (.int .i64 y.t) := (hbw.cell (p := ⟨bx, ox + 5 + 1, none⟩) hbx).trans (by simpa using d6)
  have c7 : W0.cell? ⟨bx, ox + 5 + 2, none⟩ = some (.int .i64 y.n) := (hbw.cell (p := ⟨bx, ox + 5 + 2, none⟩) hbx).trans (by simpa using d7)
  have c8 : W0.cell? ⟨bx, ox + 5 + 3, none⟩ = some (.int .i64 y.m) := (hbw.cell (p := ⟨bx, ox + 5 + 3, none⟩) hbx).trans (by simpa using d8)
  have c9 : W0.cell? ⟨bx, ox + 5 + 4, none⟩ = some (.slice ss' sn' sc2') := (hbw.cell (p := ⟨bx, ox + 5 + 4, none⟩) hbx).trans (by simpa using d9)
  have e0 := obj_cell oE (i := 0) rfl
  have e3 := obj_cell oE (i := 3) rfl
  have e4 := obj_cell oE (i := 4) rfl
  have yb : bx < W0.heap.size := Nat.lt_of_lt_of_le hbx hbw.size
  have ye := heap_lt oE
  have yr := heap_lt oR
  have D := Lib.hid (And.intro d0 (And.intro d1 (And.intro d2 (And.intro d3 d4))))
  have D' := Lib.hid (And.intro d5 (And.intro d6 (And.intro d7 (And.intro d8 d9))))
  have HAa := Lib.hid HAa
  have HAb := Lib.hid HAb
  have HTa := Lib.hid HTa
  have HTb := Lib.hid HTb
  have HZ := Lib.hid hz
  have HOE := Lib.hid oE
  have HOR := Lib.hid oR
  have HB0 := Lib.hid hbw
  obtain ⟨xo, xt, xn, xm, xl⟩ := x
  obtain ⟨yo, yt, yn, ym, yl⟩ := y
  simp only at c0 c1 c2 c3 c5 c6 c7 c8 d0 d1 d2 d3 d5 d6 d7 d8 HVx HVy
  clear hW0 oE oR hbw dV dV' hr hrow q1 q2 hz
  go_enter Tryd.func18, Tryd.ntmps18
  go_upto_region 5 with fail
  rw [← HW0.out]
  go_upto_region 6 with fail
  have HOA := Lib.hid (show (W0.alloc (.cells #[.int .i64 xo, .int .i64 xt, .int .i64 xn, .int .i64 xm, .slice ss sn sc2] 37)).heap[W0.heap.size]? = some (.cells #[.int .i64 xo, .int .i64 xt, .int .i64 xn, .int .i64 xm, .slice ss sn sc2] 37) from get_last rfl)
  have hb1 : Below W0.heap.size W0 (W0.alloc (.cells #[.int .i64 xo, .int .i64 xt, .int .i64 xn, .int .i64 xm, .slice ss sn sc2] 37)) := by (repeat' (first | (with_reducible exact Below.refl _ _) | (with_reducible assumption) | (with_reducible refine below_drewN ?_ _) | (with_reducible refine Below.alloc ?_ ?_ _) | (with_reducible refine Below.drew ?_) | (with_reducible refine Below.setCell ?_ ?_ _) | go_size))
  generalize hW1 : W0.alloc (.cells #[.int .i64 xo, .int .i64 xt, .int .i64 xn, .int .i64 xm, .slice ss sn sc2] 37) = W1 at *
  have HOE1 := Lib.hid (obj_below HOE.out hb1 ye)
  have HOR1 := Lib.hid (obj_below HOR.out hb1 yr)
  have HB1 := Lib.hid (HB0.out.trans (hb1.mono HB0.out.size))
  clear c0 c1 c2 c3 c4 c5 c6 c7 c8 c9 e0 e3 e4 hW1 hb1
  have c0 : W1.cell? ⟨bx, ox, none⟩ = some (.int .i64 xo) := (HB1.out.cell (p := ⟨bx, ox, none⟩) hbx).trans (by simpa using d0)
  have c1 : W1.cell? ⟨bx, ox + 1, none⟩ = some (.int .i64 xt) := (HB1.out.cell (p := ⟨bx, ox + 1, none⟩) hbx).trans (by simpa using d1)
  have c2 : W1.cell? ⟨bx, ox + 2, none⟩ = some (.int .i64 xn) := (HB1.out.cell (p := ⟨bx, ox + 2, none⟩) hbx).trans (by simpa using d2)
  have c3 : W1.cell? ⟨bx, ox + 3, none⟩ = some (.int .i64 xm) := (HB1.out.cell (p := ⟨bx, ox + 3, none⟩) hbx).trans (by simpa using d3)
  have c4 : W1.cell? ⟨bx, ox + 4, none⟩ = some (.slice ss sn sc2) := (HB1.out.cell (p := ⟨bx, ox + 4, none⟩) hbx).trans (by simpa using d4)
  have c5 : W1.cell? ⟨bx, ox + 5, none⟩ = some (.int .i64 yo) := (HB1.out.cell (p := ⟨bx, ox + 5, none⟩) hbx).trans (by simpa using d5)
  have c6 : W1.cell? ⟨bx, ox + 5 + 1, none⟩ = some (.int .i64 yt) := (HB1.out.cell (p := ⟨bx, ox + 5 + 1, none⟩) hbx).trans (by simpa using d6)
  have c7 : W1.cell? ⟨bx, ox + 5 + 2, none⟩ = some (.int .i64 yn) := (HB1.out.cell (p := ⟨bx, ox + 5 + 2, none⟩) hbx).trans (by simpa using d7)
  have c8 : W1.cell? ⟨bx, ox + 5 + 3, none⟩ = some (.int .i64 ym) := (HB1.out.cell (p := ⟨bx, ox + 5 + 3, none⟩) hbx).trans (by simpa using d8)
  have c9 : W1.cell? ⟨bx, ox + 5 + 4, none⟩ = some (.slice ss' sn' sc2') := (HB1.out.cell (p := ⟨bx, ox + 5 + 4, none⟩) hbx).trans (by simpa using d9)
  have e0 := obj_cell HOE1.out (i := 0) rfl
  have e3 := obj_cell HOE1.out (i := 3) rfl
  have e4 := obj_cell HOE1.out (i := 4) rfl
  have ya := heap_lt HOA.out
  go_upto_region 7 with fail
  have HOB := Lib.hid (show (W1.alloc (.cells #[.int .i64 yo, .int .i64 yt, .int .i64 yn, .int .i64 ym, .slice ss' sn' sc2'] 37)).heap[W1.heap.size]? = some (.cells #[.int .i64 yo, .int .i64 yt, .int .i64 yn, .int .i64 ym, .slice ss' sn' sc2'] 37) from get_last rfl)
  have hb1 : Below W1.heap.size W1 (W1.alloc (.cells #[.int .i64 yo, .int .i64 yt, .int .i64 yn, .int .i64 ym, .slice ss' sn' sc2'] 37)) := by (repeat' (first | (with_reducible exact Below.refl _ _) | (with_reducible assumption) | (with_reducible refine below_drewN ?_ _) | (with_reducible refine Below.alloc ?_ ?_ _) | (with_reducible refine Below.drew ?_) | (with_reducible refine Below.setCell ?_ ?_ _) | go_size))
  generalize hW2 : W1.alloc (.cells #[.int .i64 yo, .int .i64 yt, .int .i64 yn, .int .i64 ym, .slice ss' sn' sc2'] 37) = W2 at *
  have HOE2 := Lib.hid (obj_below HOE1.out hb1 (heap_lt HOE1.out))
  have HOR2 := Lib.hid (obj_below HOR1.out hb1 (heap_lt HOR1.out))
  have HOA2 := Lib.hid (obj_below HOA.out hb1 ya)
  have HB2 := Lib.hid (HB1.out.trans (hb1.mono HB1.out.size))
  have n1 : w.heap.size + 1 ≠ w.heap.size := by omega
  have n2 : w.heap.size + 1 ≠ W0.heap.size := by omega
  have n3 : w.heap.size + 1 ≠ W1.heap.size := by have := heap_lt HOR1.out; omega
  have HN := Lib.hid (And.intro n1 (And.intro n2 n3))
  clear c0 c1 c2 c3 c4 c5 c6 c7 c8 c9 e0 e3 e4 hW2 hb1 n1 n2 n3 yb ye yr ya d0 d1 d2 d3 d4 d5 d6 d7 d8 d9 HOE HOR HOE1 HOR1 HB0 HB1 HOA D D' hbx
  have e0 := obj_cell HOE2.out (i := 0) rfl
  have e3 := obj_cell HOE2.out (i := 3) rfl
  go_upto_region 11 with fail
  clear e0 e3
  have R0 := Lib.hid (show W2.drew.heap[w.heap.size + 1]? = _ from HOR2.out)
  have B0 := Lib.hid (show Below w.heap.size w W2.drew from HB2.out.drew)
  have hT0 : ThreeAt w.heap.size W0.heap.size W1.heap.size _ _ _ W2.drew := ⟨HOE2.out, HOA2.out, HOB.out⟩
  clear HOE2 HOA2 HOB HOR2 HB2
  refine wp_region_held_drew (S := (fun w' => ThreeAt w.heap.size W0.heap.size W1.heap.size (.cells #[.int .i64 7, .int .i64 0, .int .i64 0, .int .i64 m, .slice (some ⟨bx, ox, none⟩) 2 sc] 37) (.cells #[.int .i64 xo, .int .i64 xt, .int .i64 xn, .int .i64 xm, .slice ss sn sc2] 37) (.cells #[.int .i64 yo, .int .i64 yt, .int .i64 yn, .int .i64 ym, .slice ss' sn' sc2'] 37) w')) (by kernel_rfl) ?_ (fun hHeld => ?_)
  · (try dsimp only); exact hT0
  refine tk 0 (v := ?_) (hy := ?_) (h := ?_); rotate_left
  · intro wt hSw; (try dsimp only at hSw); have e3 := obj_cell hSw.e (i := 3) rfl; obtain ⟨a0, a1, a2, a3, a4⟩ := boxed_ex5 hSw.a; obtain ⟨b0, b1, b2, b3, b4⟩ := boxed_ex5 hSw.b; have za := heap_lt hSw.a; have zb := heap_lt hSw.b; go_simp <;> with_reducible rfl
  try simp only [pu, pa, pz, ps]
  refine tk 2 (v := ?_) (hy := ?_) (h := ?_); rotate_left
  · intro wt hSw; (try dsimp only at hSw); have e3 := obj_cell hSw.e (i := 3) rfl; obtain ⟨a0, a1, a2, a3, a4⟩ := boxed_ex5 hSw.a; obtain ⟨b0, b1, b2, b3, b4⟩ := boxed_ex5 hSw.b; have za := heap_lt hSw.a; have zb := heap_lt hSw.b; go_simp <;> with_reducible rfl
  try simp only [pu, pa, pz, ps]
  refine tk 5 (v := ?_) (hy := ?_) (h := ?_); rotate_left
  · intro wt hSw; (try dsimp only at hSw); have e3 := obj_cell hSw.e (i := 3) rfl; obtain ⟨a0, a1, a2, a3, a4⟩ := boxed_ex5 hSw.a; obtain ⟨b0, b1, b2, b3, b4⟩ := boxed_ex5 hSw.b; have za := heap_lt hSw.a; have zb := heap_lt hSw.b; go_simp <;> with_reducible rfl
  try simp only [pu, pa, pz, ps]
  refine tk 7 (v := ?_) (hy := ?_) (h := ?_); rotate_left
  · intro wt hSw; (try dsimp only at hSw); have e3 := obj_cell hSw.e (i := 3) rfl; obtain ⟨a0, a1, a2, a3, a4⟩ := boxed_ex5 hSw.a; obtain ⟨b0, b1, b2, b3, b4⟩ := boxed_ex5 hSw.b; have za := heap_lt hSw.a; have zb := heap_lt hSw.b; go_simp <;> with_reducible rfl
  try simp only [pu, pa, pz, ps]
  refine wpAnyH_ready (rs := [1]) (by kernel_rfl) (by simp) ?_
  refine AllReadyH.cons (o := ⟨_, _, _, _, _, _⟩) rfl (fun K hK => ?_) AllReadyH.nil
  go_simp
  refine (HAa.out _ _ (HVx.out _ B0.out)).mono ?_; rintro r v1 ⟨z0, rfl, hz0, hb⟩; have hb1 := Lib.hid hb; clear hb
  go_wp2_with fail
  refine hK.out _ _ ?_ (fun hHeld => ?_)
  · (try dsimp only); exact hHeld.below hb1.out
  clear hK K
  have R1 := Lib.hid (obj_below R0.out hb1.out (heap_lt R0.out))
  have B1 := Lib.hid (B0.out.trans (hb1.out.mono B0.out.size))
  have Z0 := Lib.hid hz0
  clear hz0
  try simp only [pu, pa, pz, ps]
  refine wpAnyH_ready (rs := [3]) (by kernel_rfl) (by simp) ?_
  refine AllReadyH.cons (o := ⟨_, _, _, _, _, _⟩) rfl (fun K hK => ?_) AllReadyH.nil
  go_simp
  refine (HTb.out _ _ (HVy.out _ B1.out)).mono ?_; rintro r v2 ⟨z1, rfl, hz1, hb⟩; have hb2 := Lib.hid hb; clear hb
  go_wp2_with fail
  refine hK.out _ _ ?_ (fun hHeld => ?_)
  · (try dsimp only); exact hHeld.below hb2.out
  clear hK K
  have R2 := Lib.hid (obj_below R1.out hb2.out (heap_lt R1.out))
  have B2 := Lib.hid (B1.out.trans (hb2.out.mono B1.out.size))
  have Z1 := Lib.hid hz1
  have Z0 := Lib.hid (Z0.out.below hb2.out)
  clear hz1
  try simp only [pu, pa, pz, ps]
  refine wpAnyH_ready (rs := [4]) (by kernel_rfl) (by simp) ?_
  refine AllReadyH.cons (o := ⟨_, _, _, _, _, _⟩) rfl (fun K hK => ?_) AllReadyH.nil
  go_simp
  refine (ref43_both 14 _ _ _ _ _ (by unfold I64; omega) Z0.out Z1.out).mono ?_; rintro r v3 ⟨z2, rfl, hz2, hb⟩; have hb3 := Lib.hid hb; clear hb
  go_wp2_with fail
  refine hK.out _ _ ?_ (fun hHeld => ?_)
  · (try dsimp only); exact hHeld.below hb3.out
  clear hK K
  have R3 := Lib.hid (obj_below R2.out hb3.out (heap_lt R2.out))
  have B3 := Lib.hid (B2.out.trans (hb3.out.mono B2.out.size))
  have Z2 := Lib.hid hz2
  clear hz2
  try simp only [pu, pa, pz, ps]
  refine wpAnyH_ready (rs := [6]) (by kernel_rfl) (by simp) ?_
  refine AllReadyH.cons (o := ⟨_, _, _, _, _, _⟩) rfl (fun K hK => ?_) AllReadyH.nil
  go_simp
  refine (HTa.out _ _ (HVx.out _ B3.out)).mono ?_; rintro r v4 ⟨z3, rfl, hz3, hb⟩; have hb4 := Lib.hid hb; clear hb
  go_wp2_with fail
  refine hK.out _ _ ?_ (fun hHeld => ?_)
  · (try dsimp only); exact hHeld.below hb4.out
  clear hK K
  have R4 := Lib.hid (obj_below R3.out hb4.out (heap_lt R3.out))
  have B4 := Lib.hid (B3.out.trans (hb4.out.mono B3.out.size))
  have Z3 := Lib.hid hz3
  have Z2 := Lib.hid (Z2.out.below hb4.out)
  clear hz3
  try simp only [pu, pa, pz, ps]
  refine wpAnyH_ready (rs := [8]) (by kernel_rfl) (by simp) ?_
  refine AllReadyH.cons (o := ⟨_, _, _, _, _, _⟩) rfl (fun K hK => ?_) AllReadyH.nil
  go_simp
  refine (HAb.out _ _ (HVy.out _ B4.out)).mono ?_; rintro r v5 ⟨z4, rfl, hz4, hb⟩; have hb5 := Lib.hid hb; clear hb
  go_wp2_with fail
  refine hK.out _ _ ?_ (fun hHeld => ?_)
  · (try dsimp only); exact hHeld.below hb5.out
  clear hK K
  have R5 := Lib.hid (obj_below R4.out hb5.out (heap_lt R4.out))
  have B5 := Lib.hid (B4.out.trans (hb5.out.mono B4.out.size))
  have Z4 := Lib.hid hz4
  have Z2 := Lib.hid (Z2.out.below hb5.out)
  have Z3 := Lib.hid (Z3.out.below hb5.out)
  clear hz4
  try simp only [pu, pa, pz, ps]
  refine wpAnyH_ready (rs := [9]) (by kernel_rfl) (by simp) ?_
  refine AllReadyH.cons (o := ⟨_, _, _, _, _, _⟩) rfl (fun K hK => ?_) AllReadyH.nil
  go_simp
  refine (ref43_both 14 _ _ _ _ _ (by unfold I64; omega) Z3.out Z4.out).mono ?_; rintro r v6 ⟨z5, rfl, hz5, hb⟩; have hb6 := Lib.hid hb; clear hb
  go_wp2_with fail
  refine hK.out _ _ ?_ (fun hHeld => ?_)
  · (try dsimp only); exact hHeld.below hb6.out
  clear hK K
  have R6 := Lib.hid (obj_below R5.out hb6.out (heap_lt R5.out))
  have B6 := Lib.hid (B5.out.trans (hb6.out.mono B5.out.size))
  have Z5 := Lib.hid hz5
  have Z2 := Lib.hid (Z2.out.below hb6.out)
  clear hz5
  try simp only [pu, pa, pz, ps]
  refine wpAnyH_ready (rs := [10]) (by kernel_rfl) (by simp) ?_
  refine AllReadyH.cons (o := ⟨_, _, _, _, _, _⟩) rfl (fun K hK => ?_) AllReadyH.nil
  go_simp
  refine (ref43_both 15 _ _ _ _ _ (by unfold I64; omega) Z2.out Z5.out).mono ?_; rintro r v7 ⟨z6, rfl, hz6, hb⟩; have hb7 := Lib.hid hb; clear hb
  go_wp2_with fail
  refine hK.out _ _ ?_ (fun hHeld => ?_)
  · (try dsimp only); exact hHeld.below hb7.out
  clear hK K
  have R7 := Lib.hid (obj_below R6.out hb7.out (heap_lt R6.out))
  have B7 := Lib.hid (B6.out.trans (hb7.out.mono B6.out.size))
  have Z6 := Lib.hid hz6
  clear hz6
  obtain ⟨a, k, c, hzf⟩ := ex_form Z6.out
  rw [hzf] at Z6
  rw [hzf]
  clear hzf
  obtain ⟨f0, f1, f2, f3, f4⟩ := frozen5 R7.out
  obtain ⟨g0, g1, g2, g3, g4⟩ := boxed_ex5 R7.out
  have yr := heap_lt R7.out
  try simp only [pu, pa, pz, ps]
  refine wpAnyH_ready (rs := [11]) (by kernel_rfl) (by simp) ?_
  refine AllReadyH.cons (o := ⟨_, _, _, _, _, _⟩) rfl (fun K hK => ?_) AllReadyH.nil
  go_simp
  refine hK.out _ _ ?_ (fun hHeld => ?_)
  · (try dsimp only); exact hHeld.sets HN.out.1 HN.out.2.1 HN.out.2.2 _ _ _ _ _
  clear hK K
  try simp only [pu, pa, pz, ps]
  refine wpAnyH_done (by kernel_rfl) ?_ _
  clear hHeld
  go_wp2_with fail
  obtain ⟨y, hy⟩ : ∃ y, binE 15 (binE 14 Aa Tb) (binE 14 Ta Ab) = y := ⟨_, rfl⟩
  rw [hy] at Z6 HZ ⊢
  obtain ⟨w5, hW5, oo, HE, HB3⟩ := store_ex R7.out Z6.out HZ.out B7.out (by omega)
  rw [← hW5]
  obtain ⟨e0, e1, e2, e3, e4⟩ := boxed_ex5 oo
  refine bodyPost_ret (by simp [results, Tryd.results18, go_sem, e0, e1, e2, e3, e4]; try rfl) rfl ?_
  exact ⟨_, rfl, HE, HB3⟩
set_option maxRecDepth 100000 in
set_option maxHeartbeats 8000000 in
theorem ref43_Turned_14 (x y Ta Tb : Ex) (hz : noZ (binE 15 Ta Tb) = true) (HTa : ∀ w v, ExV w v x → Calls Tryd.prog 49 #[v] w fun r w' => ∃ z, r = .returned z ∧ ExV w' z Ta ∧ Below w.heap.size w w') (HTb : ∀ w v, ExV w v y → Calls Tryd.prog 49 #[v] w fun r w' => ∃ z, r = .returned z ∧ ExV w' z Tb ∧ Below w.heap.size w w') (w : World) (v : Value) (hv : ExV w v ⟨7, 0, 0, 14, [x, y]⟩) :
    Calls Tryd.prog 49 #[v] w fun r w' => ∃ z, r = .returned z ∧ ExV w' z (binE 15 Ta Tb) ∧ Below w.heap.size w w' := by
  obtain ⟨sl, rfl, hr, hrow⟩ := hv
  simp only at hrow
  obtain ⟨sa, sc, rfl⟩ := row_get hrow
  obtain ⟨bx, ox, ss, sn, sc2, rfl, hbx, q1, q2, d0, d1, d2, d3, d4, dV⟩ := ex_at hrow (k := 0) (x := x) rfl
  obtain ⟨_, _, ss', sn', sc2', hh, _, _, _, d5, d6, d7, d8, d9, dV'⟩ := ex_at hrow (k := 1) (x := y) rfl
  obtain ⟨rfl, rfl⟩ : bx = _ ∧ ox = _ := by injection hh with hh; injection hh with h1 h2; exact ⟨h1, h2⟩
  have hl2 : ([x, y] : List Ex).length = 2 := rfl
  rw [hl2]
  clear hl2 hh
  obtain ⟨W0, hW0⟩ : ∃ W0, W0 = (w.alloc (.cells #[.int .i64 7, .int .i64 0, .int .i64 0, .int .i64 14, .slice (some ⟨bx, ox, none⟩) 2 sc] 37)).alloc (.cells #[.int .i64 0, .int .i64 0, .int .i64 0, .int .i64 0, .slice none 0 0] 37) := ⟨_, rfl⟩
  have oE : W0.heap[w.heap.size]? = some (.cells #[.int .i64 7, .int .i64 0, .int .i64 0, .int .i64 14, .slice (some ⟨bx, ox, none⟩) 2 sc] 37) := by rw [hW0]; exact (get_past (by simp)).trans (get_last rfl)
  have oR : W0.heap[w.heap.size + 1]? = some (.cells #[.int .i64 0, .int .i64 0, .int .i64 0, .int .i64 0, .slice none 0 0] 37) := by rw [hW0]; exact get_last (by simp)
  have hbw : Below w.heap.size w W0 := by rw [hW0]; exact by (repeat' (first | (with_reducible exact Below.refl _ _) | (with_reducible assumption) | (with_reducible refine below_drewN ?_ _) | (with_reducible refine Below.alloc ?_ ?_ _) | (with_reducible refine Below.drew ?_) | (with_reducible refine Below.setCell ?_ ?_ _) | go_size))
  have HW0 := Lib.hid hW0
  have HVx := Lib.hid (fun W (hb : Below w.heap.size w W) => dV.below hb)
  have HVy := Lib.hid (fun W (hb : Below w.heap.size w W) => dV'.below hb)
  have c0 : W0.cell? ⟨bx, ox, none⟩ = some (.int .i64 x.op) := (hbw.cell (p := ⟨bx, ox, none⟩) hbx).trans (by simpa using d0)
  have c1 : W0.cell? ⟨bx, ox + 1, none⟩ = some (.int .i64 x.t) := (hbw.cell (p := ⟨bx, ox + 1, none⟩) hbx).trans (by simpa using d1)
  have c2 : W0.cell? ⟨bx, ox + 2, none⟩ = some (.int .i64 x.n) := (hbw.cell (p := ⟨bx, ox + 2, none⟩) hbx).trans (by simpa using d2)
  have c3 : W0.cell? ⟨bx, ox + 3, none⟩ = some (.int .i64 x.m) := (hbw.cell (p := ⟨bx, ox + 3, none⟩) hbx).trans (by simpa using d3)
  have c4 : W0.cell? ⟨bx, ox + 4, none⟩ = some (.slice ss sn sc2) := (hbw.cell (p := ⟨bx, ox + 4, none⟩) hbx).trans (by simpa using d4)
  have c5 : W0.cell? ⟨bx, ox + 5, none⟩ = some (.int .i64 y.op) := (hbw.cell (p := ⟨bx, ox + 5, none⟩) hbx).trans (by simpa using d5)
  have c6 : W0.cell? ⟨bx, ox + 5 + 1, none⟩ = some (.int .i64 y.t) := (hbw.cell (p := ⟨bx, ox + 5 + 1, none⟩) hbx).trans (by simpa using d6)
  have c7 : W0.cell? ⟨bx, ox + 5 + 2, none⟩ = some (.int .i64 y.n) := (hbw.cell (p := ⟨bx, ox + 5 + 2, none⟩) hbx).trans (by simpa using d7)
  have c8 : W0.cell? ⟨bx, ox + 5 + 3, none⟩ = some (.int .i64 y.m) := (hbw.cell (p := ⟨bx, ox + 5 + 3, none⟩) hbx).trans (by simpa using d8)
  have c9 : W0.cell? ⟨bx, ox + 5 + 4, none⟩ = some (.slice ss' sn' sc2') := (hbw.cell (p := ⟨bx, ox + 5 + 4, none⟩) hbx).trans (by simpa using d9)
  have e0 := obj_cell oE (i := 0) rfl
  have e3 := obj_cell oE (i := 3) rfl
  have e4 := obj_cell oE (i := 4) rfl
  have yb : bx < W0.heap.size := Nat.lt_of_lt_of_le hbx hbw.size
  have ye := heap_lt oE
  have yr := heap_lt oR
  have D := Lib.hid (And.intro d0 (And.intro d1 (And.intro d2 (And.intro d3 d4))))
  have D' := Lib.hid (And.intro d5 (And.intro d6 (And.intro d7 (And.intro d8 d9))))
  have HTa := Lib.hid HTa
  have HTb := Lib.hid HTb
  have HZ := Lib.hid hz
  have HOE := Lib.hid oE
  have HOR := Lib.hid oR
  have HB0 := Lib.hid hbw
  obtain ⟨xo, xt, xn, xm, xl⟩ := x
  obtain ⟨yo, yt, yn, ym, yl⟩ := y
  simp only at c0 c1 c2 c3 c5 c6 c7 c8 d0 d1 d2 d3 d5 d6 d7 d8 HVx HVy
  clear hW0 oE oR hbw dV dV' hr hrow q1 q2 hz
  go_enter Tryd.func49, Tryd.ntmps49
  go_upto_region 7 with fail
  rw [← HW0.out]
  go_upto_region 8 with fail
  have HOA := Lib.hid (show (W0.alloc (.cells #[.int .i64 xo, .int .i64 xt, .int .i64 xn, .int .i64 xm, .slice ss sn sc2] 37)).heap[W0.heap.size]? = some (.cells #[.int .i64 xo, .int .i64 xt, .int .i64 xn, .int .i64 xm, .slice ss sn sc2] 37) from get_last rfl)
  have hb1 : Below W0.heap.size W0 (W0.alloc (.cells #[.int .i64 xo, .int .i64 xt, .int .i64 xn, .int .i64 xm, .slice ss sn sc2] 37)) := by (repeat' (first | (with_reducible exact Below.refl _ _) | (with_reducible assumption) | (with_reducible refine below_drewN ?_ _) | (with_reducible refine Below.alloc ?_ ?_ _) | (with_reducible refine Below.drew ?_) | (with_reducible refine Below.setCell ?_ ?_ _) | go_size))
  generalize hW1 : W0.alloc (.cells #[.int .i64 xo, .int .i64 xt, .int .i64 xn, .int .i64 xm, .slice ss sn sc2] 37) = W1 at *
  have HOE1 := Lib.hid (obj_below HOE.out hb1 ye)
  have HOR1 := Lib.hid (obj_below HOR.out hb1 yr)
  have HB1 := Lib.hid (HB0.out.trans (hb1.mono HB0.out.size))
  clear c0 c1 c2 c3 c4 c5 c6 c7 c8 c9 e0 e3 e4 hW1 hb1
  have c0 : W1.cell? ⟨bx, ox, none⟩ = some (.int .i64 xo) := (HB1.out.cell (p := ⟨bx, ox, none⟩) hbx).trans (by simpa using d0)
  have c1 : W1.cell? ⟨bx, ox + 1, none⟩ = some (.int .i64 xt) := (HB1.out.cell (p := ⟨bx, ox + 1, none⟩) hbx).trans (by simpa using d1)
  have c2 : W1.cell? ⟨bx, ox + 2, none⟩ = some (.int .i64 xn) := (HB1.out.cell (p := ⟨bx, ox + 2, none⟩) hbx).trans (by simpa using d2)
  have c3 : W1.cell? ⟨bx, ox + 3, none⟩ = some (.int .i64 xm) := (HB1.out.cell (p := ⟨bx, ox + 3, none⟩) hbx).trans (by simpa using d3)
  have c4 : W1.cell? ⟨bx, ox + 4, none⟩ = some (.slice ss sn sc2) := (HB1.out.cell (p := ⟨bx, ox + 4, none⟩) hbx).trans (by simpa using d4)
  have c5 : W1.cell? ⟨bx, ox + 5, none⟩ = some (.int .i64 yo) := (HB1.out.cell (p := ⟨bx, ox + 5, none⟩) hbx).trans (by simpa using d5)
  have c6 : W1.cell? ⟨bx, ox + 5 + 1, none⟩ = some (.int .i64 yt) := (HB1.out.cell (p := ⟨bx, ox + 5 + 1, none⟩) hbx).trans (by simpa using d6)
  have c7 : W1.cell? ⟨bx, ox + 5 + 2, none⟩ = some (.int .i64 yn) := (HB1.out.cell (p := ⟨bx, ox + 5 + 2, none⟩) hbx).trans (by simpa using d7)
  have c8 : W1.cell? ⟨bx, ox + 5 + 3, none⟩ = some (.int .i64 ym) := (HB1.out.cell (p := ⟨bx, ox + 5 + 3, none⟩) hbx).trans (by simpa using d8)
  have c9 : W1.cell? ⟨bx, ox + 5 + 4, none⟩ = some (.slice ss' sn' sc2') := (HB1.out.cell (p := ⟨bx, ox + 5 + 4, none⟩) hbx).trans (by simpa using d9)
  have e0 := obj_cell HOE1.out (i := 0) rfl
  have e3 := obj_cell HOE1.out (i := 3) rfl
  have e4 := obj_cell HOE1.out (i := 4) rfl
  have ya := heap_lt HOA.out
  go_upto_region 9 with fail
  have HOB := Lib.hid (show (W1.alloc (.cells #[.int .i64 yo, .int .i64 yt, .int .i64 yn, .int .i64 ym, .slice ss' sn' sc2'] 37)).heap[W1.heap.size]? = some (.cells #[.int .i64 yo, .int .i64 yt, .int .i64 yn, .int .i64 ym, .slice ss' sn' sc2'] 37) from get_last rfl)
  have hb1 : Below W1.heap.size W1 (W1.alloc (.cells #[.int .i64 yo, .int .i64 yt, .int .i64 yn, .int .i64 ym, .slice ss' sn' sc2'] 37)) := by (repeat' (first | (with_reducible exact Below.refl _ _) | (with_reducible assumption) | (with_reducible refine below_drewN ?_ _) | (with_reducible refine Below.alloc ?_ ?_ _) | (with_reducible refine Below.drew ?_) | (with_reducible refine Below.setCell ?_ ?_ _) | go_size))
  generalize hW2 : W1.alloc (.cells #[.int .i64 yo, .int .i64 yt, .int .i64 yn, .int .i64 ym, .slice ss' sn' sc2'] 37) = W2 at *
  have HOE2 := Lib.hid (obj_below HOE1.out hb1 (heap_lt HOE1.out))
  have HOR2 := Lib.hid (obj_below HOR1.out hb1 (heap_lt HOR1.out))
  have HOA2 := Lib.hid (obj_below HOA.out hb1 ya)
  have HB2 := Lib.hid (HB1.out.trans (hb1.mono HB1.out.size))
  have n1 : w.heap.size + 1 ≠ w.heap.size := by omega
  have n2 : w.heap.size + 1 ≠ W0.heap.size := by omega
  have n3 : w.heap.size + 1 ≠ W1.heap.size := by have := heap_lt HOR1.out; omega
  have HN := Lib.hid (And.intro n1 (And.intro n2 n3))
  clear c0 c1 c2 c3 c4 c5 c6 c7 c8 c9 e0 e3 e4 hW2 hb1 n1 n2 n3 yb ye yr ya d0 d1 d2 d3 d4 d5 d6 d7 d8 d9 HOE HOR HOE1 HOR1 HB0 HB1 HOA D D' hbx
  have e0 := obj_cell HOE2.out (i := 0) rfl
  have e3 := obj_cell HOE2.out (i := 3) rfl
  go_upto_region 10 with fail
  clear e0 e3
  have R0 := Lib.hid (show W2.drew.heap[w.heap.size + 1]? = _ from HOR2.out)
  have B0 := Lib.hid (show Below w.heap.size w W2.drew from HB2.out.drew)
  have hT0 : ThreeAt w.heap.size W0.heap.size W1.heap.size _ _ _ W2.drew := ⟨HOE2.out, HOA2.out, HOB.out⟩
  clear HOE2 HOA2 HOB HOR2 HB2
  refine wp_region_held_drew (S := (fun w' => ThreeAt w.heap.size W0.heap.size W1.heap.size (.cells #[.int .i64 7, .int .i64 0, .int .i64 0, .int .i64 14, .slice (some ⟨bx, ox, none⟩) 2 sc] 37) (.cells #[.int .i64 xo, .int .i64 xt, .int .i64 xn, .int .i64 xm, .slice ss sn sc2] 37) (.cells #[.int .i64 yo, .int .i64 yt, .int .i64 yn, .int .i64 ym, .slice ss' sn' sc2'] 37) w')) (by kernel_rfl) ?_ (fun hHeld => ?_)
  · (try dsimp only); exact hT0
  refine tk 0 (v := ?_) (hy := ?_) (h := ?_); rotate_left
  · intro _ _; go_simp <;> with_reducible rfl
  try simp only [pu, pa, pz, ps]
  refine tk 1 (v := ?_) (hy := ?_) (h := ?_); rotate_left
  · intro wt hSw; (try dsimp only at hSw); have e3 := obj_cell hSw.e (i := 3) rfl; obtain ⟨a0, a1, a2, a3, a4⟩ := boxed_ex5 hSw.a; obtain ⟨b0, b1, b2, b3, b4⟩ := boxed_ex5 hSw.b; have za := heap_lt hSw.a; have zb := heap_lt hSw.b; go_simp <;> with_reducible rfl
  try simp only [pu, pa, pz, ps]
  refine tk 2 (v := ?_) (hy := ?_) (h := ?_); rotate_left
  · intro _ _; go_simp <;> with_reducible rfl
  try simp only [pu, pa, pz, ps]
  refine tk 3 (v := ?_) (hy := ?_) (h := ?_); rotate_left
  · intro wt hSw; (try dsimp only at hSw); have e3 := obj_cell hSw.e (i := 3) rfl; obtain ⟨a0, a1, a2, a3, a4⟩ := boxed_ex5 hSw.a; obtain ⟨b0, b1, b2, b3, b4⟩ := boxed_ex5 hSw.b; have za := heap_lt hSw.a; have zb := heap_lt hSw.b; go_simp <;> with_reducible rfl
  try simp only [pu, pa, pz, ps]
  refine tk 5 (v := ?_) (hy := ?_) (h := ?_); rotate_left
  · intro wt hSw; (try dsimp only at hSw); have e3 := obj_cell hSw.e (i := 3) rfl; obtain ⟨a0, a1, a2, a3, a4⟩ := boxed_ex5 hSw.a; obtain ⟨b0, b1, b2, b3, b4⟩ := boxed_ex5 hSw.b; have za := heap_lt hSw.a; have zb := heap_lt hSw.b; go_simp <;> with_reducible rfl
  try simp only [pu, pa, pz, ps]
  refine wpAnyH_ready (rs := [4]) (by kernel_rfl) (by simp) ?_
  refine AllReadyH.cons (o := ⟨_, _, _, _, _, _⟩) rfl (fun K hK => ?_) AllReadyH.nil
  go_simp
  refine (HTa.out _ _ (HVx.out _ B0.out)).mono ?_; rintro r v1 ⟨z0, rfl, hz0, hb⟩; have hb1 := Lib.hid hb; clear hb
  go_wp2_with fail
  refine hK.out _ _ ?_ (fun hHeld => ?_)
  · (try dsimp only); exact hHeld.below hb1.out
  clear hK K
  have R1 := Lib.hid (obj_below R0.out hb1.out (heap_lt R0.out))
  have B1 := Lib.hid (B0.out.trans (hb1.out.mono B0.out.size))
  have Z0 := Lib.hid hz0
  clear hz0
  try simp only [pu, pa, pz, ps]
  refine wpAnyH_ready (rs := [6]) (by kernel_rfl) (by simp) ?_
  refine AllReadyH.cons (o := ⟨_, _, _, _, _, _⟩) rfl (fun K hK => ?_) AllReadyH.nil
  go_simp
  refine (HTb.out _ _ (HVy.out _ B1.out)).mono ?_; rintro r v2 ⟨z1, rfl, hz1, hb⟩; have hb2 := Lib.hid hb; clear hb
  go_wp2_with fail
  refine hK.out _ _ ?_ (fun hHeld => ?_)
  · (try dsimp only); exact hHeld.below hb2.out
  clear hK K
  have R2 := Lib.hid (obj_below R1.out hb2.out (heap_lt R1.out))
  have B2 := Lib.hid (B1.out.trans (hb2.out.mono B1.out.size))
  have Z1 := Lib.hid hz1
  have Z0 := Lib.hid (Z0.out.below hb2.out)
  clear hz1
  try simp only [pu, pa, pz, ps]
  refine wpAnyH_ready (rs := [7]) (by kernel_rfl) (by simp) ?_
  refine AllReadyH.cons (o := ⟨_, _, _, _, _, _⟩) rfl (fun K hK => ?_) AllReadyH.nil
  go_simp
  refine (ref43_both 15 _ _ _ _ _ (by unfold I64; omega) Z0.out Z1.out).mono ?_; rintro r v3 ⟨z2, rfl, hz2, hb⟩; have hb3 := Lib.hid hb; clear hb
  go_wp2_with fail
  refine hK.out _ _ ?_ (fun hHeld => ?_)
  · (try dsimp only); exact hHeld.below hb3.out
  clear hK K
  have R3 := Lib.hid (obj_below R2.out hb3.out (heap_lt R2.out))
  have B3 := Lib.hid (B2.out.trans (hb3.out.mono B2.out.size))
  have Z2 := Lib.hid hz2
  clear hz2
  obtain ⟨a, k, c, hzf⟩ := ex_form Z2.out
  rw [hzf] at Z2
  rw [hzf]
  clear hzf
  obtain ⟨f0, f1, f2, f3, f4⟩ := frozen5 R3.out
  obtain ⟨g0, g1, g2, g3, g4⟩ := boxed_ex5 R3.out
  have yr := heap_lt R3.out
  try simp only [pu, pa, pz, ps]
  refine wpAnyH_ready (rs := [8]) (by kernel_rfl) (by simp) ?_
  refine AllReadyH.cons (o := ⟨_, _, _, _, _, _⟩) rfl (fun K hK => ?_) AllReadyH.nil
  go_simp
  refine hK.out _ _ ?_ (fun hHeld => ?_)
  · (try dsimp only); exact hHeld.sets HN.out.1 HN.out.2.1 HN.out.2.2 _ _ _ _ _
  clear hK K
  try simp only [pu, pa, pz, ps]
  refine wpAnyH_done (by kernel_rfl) ?_ _
  clear hHeld
  go_wp2_with fail
  obtain ⟨y, hy⟩ : ∃ y, binE 15 Ta Tb = y := ⟨_, rfl⟩
  rw [hy] at Z2 HZ ⊢
  obtain ⟨w5, hW5, oo, HE, HB3⟩ := store_ex R3.out Z2.out HZ.out B3.out (by omega)
  rw [← hW5]
  obtain ⟨e0, e1, e2, e3, e4⟩ := boxed_ex5 oo
  refine bodyPost_ret (by simp [results, Tryd.results49, go_sem, e0, e1, e2, e3, e4]; try rfl) rfl ?_
  exact ⟨_, rfl, HE, HB3⟩
set_option maxRecDepth 100000 in
set_option maxHeartbeats 8000000 in
theorem ref43_Turned_15 (x y Ta Tb : Ex) (hz : noZ (binE 14 Ta Tb) = true) (HTa : ∀ w v, ExV w v x → Calls Tryd.prog 49 #[v] w fun r w' => ∃ z, r = .returned z ∧ ExV w' z Ta ∧ Below w.heap.size w w') (HTb : ∀ w v, ExV w v y → Calls Tryd.prog 49 #[v] w fun r w' => ∃ z, r = .returned z ∧ ExV w' z Tb ∧ Below w.heap.size w w') (w : World) (v : Value) (hv : ExV w v ⟨7, 0, 0, 15, [x, y]⟩) :
    Calls Tryd.prog 49 #[v] w fun r w' => ∃ z, r = .returned z ∧ ExV w' z (binE 14 Ta Tb) ∧ Below w.heap.size w w' := by
  obtain ⟨sl, rfl, hr, hrow⟩ := hv
  simp only at hrow
  obtain ⟨sa, sc, rfl⟩ := row_get hrow
  obtain ⟨bx, ox, ss, sn, sc2, rfl, hbx, q1, q2, d0, d1, d2, d3, d4, dV⟩ := ex_at hrow (k := 0) (x := x) rfl
  obtain ⟨_, _, ss', sn', sc2', hh, _, _, _, d5, d6, d7, d8, d9, dV'⟩ := ex_at hrow (k := 1) (x := y) rfl
  obtain ⟨rfl, rfl⟩ : bx = _ ∧ ox = _ := by injection hh with hh; injection hh with h1 h2; exact ⟨h1, h2⟩
  have hl2 : ([x, y] : List Ex).length = 2 := rfl
  rw [hl2]
  clear hl2 hh
  obtain ⟨W0, hW0⟩ : ∃ W0, W0 = (w.alloc (.cells #[.int .i64 7, .int .i64 0, .int .i64 0, .int .i64 15, .slice (some ⟨bx, ox, none⟩) 2 sc] 37)).alloc (.cells #[.int .i64 0, .int .i64 0, .int .i64 0, .int .i64 0, .slice none 0 0] 37) := ⟨_, rfl⟩
  have oE : W0.heap[w.heap.size]? = some (.cells #[.int .i64 7, .int .i64 0, .int .i64 0, .int .i64 15, .slice (some ⟨bx, ox, none⟩) 2 sc] 37) := by rw [hW0]; exact (get_past (by simp)).trans (get_last rfl)
  have oR : W0.heap[w.heap.size + 1]? = some (.cells #[.int .i64 0, .int .i64 0, .int .i64 0, .int .i64 0, .slice none 0 0] 37) := by rw [hW0]; exact get_last (by simp)
  have hbw : Below w.heap.size w W0 := by rw [hW0]; exact by (repeat' (first | (with_reducible exact Below.refl _ _) | (with_reducible assumption) | (with_reducible refine below_drewN ?_ _) | (with_reducible refine Below.alloc ?_ ?_ _) | (with_reducible refine Below.drew ?_) | (with_reducible refine Below.setCell ?_ ?_ _) | go_size))
  have HW0 := Lib.hid hW0
  have HVx := Lib.hid (fun W (hb : Below w.heap.size w W) => dV.below hb)
  have HVy := Lib.hid (fun W (hb : Below w.heap.size w W) => dV'.below hb)
  have c0 : W0.cell? ⟨bx, ox, none⟩ = some (.int .i64 x.op) := (hbw.cell (p := ⟨bx, ox, none⟩) hbx).trans (by simpa using d0)
  have c1 : W0.cell? ⟨bx, ox + 1, none⟩ = some (.int .i64 x.t) := (hbw.cell (p := ⟨bx, ox + 1, none⟩) hbx).trans (by simpa using d1)
  have c2 : W0.cell? ⟨bx, ox + 2, none⟩ = some (.int .i64 x.n) := (hbw.cell (p := ⟨bx, ox + 2, none⟩) hbx).trans (by simpa using d2)
  have c3 : W0.cell? ⟨bx, ox + 3, none⟩ = some (.int .i64 x.m) := (hbw.cell (p := ⟨bx, ox + 3, none⟩) hbx).trans (by simpa using d3)
  have c4 : W0.cell? ⟨bx, ox + 4, none⟩ = some (.slice ss sn sc2) := (hbw.cell (p := ⟨bx, ox + 4, none⟩) hbx).trans (by simpa using d4)
  have c5 : W0.cell? ⟨bx, ox + 5, none⟩ = some (.int .i64 y.op) := (hbw.cell (p := ⟨bx, ox + 5, none⟩) hbx).trans (by simpa using d5)
  have c6 : W0.cell? ⟨bx, ox + 5 + 1, none⟩ = some (.int .i64 y.t) := (hbw.cell (p := ⟨bx, ox + 5 + 1, none⟩) hbx).trans (by simpa using d6)
  have c7 : W0.cell? ⟨bx, ox + 5 + 2, none⟩ = some (.int .i64 y.n) := (hbw.cell (p := ⟨bx, ox + 5 + 2, none⟩) hbx).trans (by simpa using d7)
  have c8 : W0.cell? ⟨bx, ox + 5 + 3, none⟩ = some (.int .i64 y.m) := (hbw.cell (p := ⟨bx, ox + 5 + 3, none⟩) hbx).trans (by simpa using d8)
  have c9 : W0.cell? ⟨bx, ox + 5 + 4, none⟩ = some (.slice ss' sn' sc2') := (hbw.cell (p := ⟨bx, ox + 5 + 4, none⟩) hbx).trans (by simpa using d9)
  have e0 := obj_cell oE (i := 0) rfl
  have e3 := obj_cell oE (i := 3) rfl
  have e4 := obj_cell oE (i := 4) rfl
  have yb : bx < W0.heap.size := Nat.lt_of_lt_of_le hbx hbw.size
  have ye := heap_lt oE
  have yr := heap_lt oR
  have D := Lib.hid (And.intro d0 (And.intro d1 (And.intro d2 (And.intro d3 d4))))
  have D' := Lib.hid (And.intro d5 (And.intro d6 (And.intro d7 (And.intro d8 d9))))
  have HTa := Lib.hid HTa
  have HTb := Lib.hid HTb
  have HZ := Lib.hid hz
  have HOE := Lib.hid oE
  have HOR := Lib.hid oR
  have HB0 := Lib.hid hbw
  obtain ⟨xo, xt, xn, xm, xl⟩ := x
  obtain ⟨yo, yt, yn, ym, yl⟩ := y
  simp only at c0 c1 c2 c3 c5 c6 c7 c8 d0 d1 d2 d3 d5 d6 d7 d8 HVx HVy
  clear hW0 oE oR hbw dV dV' hr hrow q1 q2 hz
  go_enter Tryd.func49, Tryd.ntmps49
  go_upto_region 7 with fail
  rw [← HW0.out]
  go_upto_region 8 with fail
  have HOA := Lib.hid (show (W0.alloc (.cells #[.int .i64 xo, .int .i64 xt, .int .i64 xn, .int .i64 xm, .slice ss sn sc2] 37)).heap[W0.heap.size]? = some (.cells #[.int .i64 xo, .int .i64 xt, .int .i64 xn, .int .i64 xm, .slice ss sn sc2] 37) from get_last rfl)
  have hb1 : Below W0.heap.size W0 (W0.alloc (.cells #[.int .i64 xo, .int .i64 xt, .int .i64 xn, .int .i64 xm, .slice ss sn sc2] 37)) := by (repeat' (first | (with_reducible exact Below.refl _ _) | (with_reducible assumption) | (with_reducible refine below_drewN ?_ _) | (with_reducible refine Below.alloc ?_ ?_ _) | (with_reducible refine Below.drew ?_) | (with_reducible refine Below.setCell ?_ ?_ _) | go_size))
  generalize hW1 : W0.alloc (.cells #[.int .i64 xo, .int .i64 xt, .int .i64 xn, .int .i64 xm, .slice ss sn sc2] 37) = W1 at *
  have HOE1 := Lib.hid (obj_below HOE.out hb1 ye)
  have HOR1 := Lib.hid (obj_below HOR.out hb1 yr)
  have HB1 := Lib.hid (HB0.out.trans (hb1.mono HB0.out.size))
  clear c0 c1 c2 c3 c4 c5 c6 c7 c8 c9 e0 e3 e4 hW1 hb1
  have c0 : W1.cell? ⟨bx, ox, none⟩ = some (.int .i64 xo) := (HB1.out.cell (p := ⟨bx, ox, none⟩) hbx).trans (by simpa using d0)
  have c1 : W1.cell? ⟨bx, ox + 1, none⟩ = some (.int .i64 xt) := (HB1.out.cell (p := ⟨bx, ox + 1, none⟩) hbx).trans (by simpa using d1)
  have c2 : W1.cell? ⟨bx, ox + 2, none⟩ = some (.int .i64 xn) := (HB1.out.cell (p := ⟨bx, ox + 2, none⟩) hbx).trans (by simpa using d2)
  have c3 : W1.cell? ⟨bx, ox + 3, none⟩ = some (.int .i64 xm) := (HB1.out.cell (p := ⟨bx, ox + 3, none⟩) hbx).trans (by simpa using d3)
  have c4 : W1.cell? ⟨bx, ox + 4, none⟩ = some (.slice ss sn sc2) := (HB1.out.cell (p := ⟨bx, ox + 4, none⟩) hbx).trans (by simpa using d4)
  have c5 : W1.cell? ⟨bx, ox + 5, none⟩ = some (.int .i64 yo) := (HB1.out.cell (p := ⟨bx, ox + 5, none⟩) hbx).trans (by simpa using d5)
  have c6 : W1.cell? ⟨bx, ox + 5 + 1, none⟩ = some (.int .i64 yt) := (HB1.out.cell (p := ⟨bx, ox + 5 + 1, none⟩) hbx).trans (by simpa using d6)
  have c7 : W1.cell? ⟨bx, ox + 5 + 2, none⟩ = some (.int .i64 yn) := (HB1.out.cell (p := ⟨bx, ox + 5 + 2, none⟩) hbx).trans (by simpa using d7)
  have c8 : W1.cell? ⟨bx, ox + 5 + 3, none⟩ = some (.int .i64 ym) := (HB1.out.cell (p := ⟨bx, ox + 5 + 3, none⟩) hbx).trans (by simpa using d8)
  have c9 : W1.cell? ⟨bx, ox + 5 + 4, none⟩ = some (.slice ss' sn' sc2') := (HB1.out.cell (p := ⟨bx, ox + 5 + 4, none⟩) hbx).trans (by simpa using d9)
  have e0 := obj_cell HOE1.out (i := 0) rfl
  have e3 := obj_cell HOE1.out (i := 3) rfl
  have e4 := obj_cell HOE1.out (i := 4) rfl
  have ya := heap_lt HOA.out
  go_upto_region 9 with fail
  have HOB := Lib.hid (show (W1.alloc (.cells #[.int .i64 yo, .int .i64 yt, .int .i64 yn, .int .i64 ym, .slice ss' sn' sc2'] 37)).heap[W1.heap.size]? = some (.cells #[.int .i64 yo, .int .i64 yt, .int .i64 yn, .int .i64 ym, .slice ss' sn' sc2'] 37) from get_last rfl)
  have hb1 : Below W1.heap.size W1 (W1.alloc (.cells #[.int .i64 yo, .int .i64 yt, .int .i64 yn, .int .i64 ym, .slice ss' sn' sc2'] 37)) := by (repeat' (first | (with_reducible exact Below.refl _ _) | (with_reducible assumption) | (with_reducible refine below_drewN ?_ _) | (with_reducible refine Below.alloc ?_ ?_ _) | (with_reducible refine Below.drew ?_) | (with_reducible refine Below.setCell ?_ ?_ _) | go_size))
  generalize hW2 : W1.alloc (.cells #[.int .i64 yo, .int .i64 yt, .int .i64 yn, .int .i64 ym, .slice ss' sn' sc2'] 37) = W2 at *
  have HOE2 := Lib.hid (obj_below HOE1.out hb1 (heap_lt HOE1.out))
  have HOR2 := Lib.hid (obj_below HOR1.out hb1 (heap_lt HOR1.out))
  have HOA2 := Lib.hid (obj_below HOA.out hb1 ya)
  have HB2 := Lib.hid (HB1.out.trans (hb1.mono HB1.out.size))
  have n1 : w.heap.size + 1 ≠ w.heap.size := by omega
  have n2 : w.heap.size + 1 ≠ W0.heap.size := by omega
  have n3 : w.heap.size + 1 ≠ W1.heap.size := by have := heap_lt HOR1.out; omega
  have HN := Lib.hid (And.intro n1 (And.intro n2 n3))
  clear c0 c1 c2 c3 c4 c5 c6 c7 c8 c9 e0 e3 e4 hW2 hb1 n1 n2 n3 yb ye yr ya d0 d1 d2 d3 d4 d5 d6 d7 d8 d9 HOE HOR HOE1 HOR1 HB0 HB1 HOA D D' hbx
  have e0 := obj_cell HOE2.out (i := 0) rfl
  have e3 := obj_cell HOE2.out (i := 3) rfl
  go_upto_region 10 with fail
  clear e0 e3
  have R0 := Lib.hid (show W2.drew.heap[w.heap.size + 1]? = _ from HOR2.out)
  have B0 := Lib.hid (show Below w.heap.size w W2.drew from HB2.out.drew)
  have hT0 : ThreeAt w.heap.size W0.heap.size W1.heap.size _ _ _ W2.drew := ⟨HOE2.out, HOA2.out, HOB.out⟩
  clear HOE2 HOA2 HOB HOR2 HB2
  refine wp_region_held_drew (S := (fun w' => ThreeAt w.heap.size W0.heap.size W1.heap.size (.cells #[.int .i64 7, .int .i64 0, .int .i64 0, .int .i64 15, .slice (some ⟨bx, ox, none⟩) 2 sc] 37) (.cells #[.int .i64 xo, .int .i64 xt, .int .i64 xn, .int .i64 xm, .slice ss sn sc2] 37) (.cells #[.int .i64 yo, .int .i64 yt, .int .i64 yn, .int .i64 ym, .slice ss' sn' sc2'] 37) w')) (by kernel_rfl) ?_ (fun hHeld => ?_)
  · (try dsimp only); exact hT0
  refine tk 0 (v := ?_) (hy := ?_) (h := ?_); rotate_left
  · intro _ _; go_simp <;> with_reducible rfl
  try simp only [pu, pa, pz, ps]
  refine tk 1 (v := ?_) (hy := ?_) (h := ?_); rotate_left
  · intro wt hSw; (try dsimp only at hSw); have e3 := obj_cell hSw.e (i := 3) rfl; obtain ⟨a0, a1, a2, a3, a4⟩ := boxed_ex5 hSw.a; obtain ⟨b0, b1, b2, b3, b4⟩ := boxed_ex5 hSw.b; have za := heap_lt hSw.a; have zb := heap_lt hSw.b; go_simp <;> with_reducible rfl
  try simp only [pu, pa, pz, ps]
  refine tk 2 (v := ?_) (hy := ?_) (h := ?_); rotate_left
  · intro _ _; go_simp <;> with_reducible rfl
  try simp only [pu, pa, pz, ps]
  refine tk 3 (v := ?_) (hy := ?_) (h := ?_); rotate_left
  · intro wt hSw; (try dsimp only at hSw); have e3 := obj_cell hSw.e (i := 3) rfl; obtain ⟨a0, a1, a2, a3, a4⟩ := boxed_ex5 hSw.a; obtain ⟨b0, b1, b2, b3, b4⟩ := boxed_ex5 hSw.b; have za := heap_lt hSw.a; have zb := heap_lt hSw.b; go_simp <;> with_reducible rfl
  try simp only [pu, pa, pz, ps]
  refine tk 5 (v := ?_) (hy := ?_) (h := ?_); rotate_left
  · intro wt hSw; (try dsimp only at hSw); have e3 := obj_cell hSw.e (i := 3) rfl; obtain ⟨a0, a1, a2, a3, a4⟩ := boxed_ex5 hSw.a; obtain ⟨b0, b1, b2, b3, b4⟩ := boxed_ex5 hSw.b; have za := heap_lt hSw.a; have zb := heap_lt hSw.b; go_simp <;> with_reducible rfl
  try simp only [pu, pa, pz, ps]
  refine wpAnyH_ready (rs := [4]) (by kernel_rfl) (by simp) ?_
  refine AllReadyH.cons (o := ⟨_, _, _, _, _, _⟩) rfl (fun K hK => ?_) AllReadyH.nil
  go_simp
  refine (HTa.out _ _ (HVx.out _ B0.out)).mono ?_; rintro r v1 ⟨z0, rfl, hz0, hb⟩; have hb1 := Lib.hid hb; clear hb
  go_wp2_with fail
  refine hK.out _ _ ?_ (fun hHeld => ?_)
  · (try dsimp only); exact hHeld.below hb1.out
  clear hK K
  have R1 := Lib.hid (obj_below R0.out hb1.out (heap_lt R0.out))
  have B1 := Lib.hid (B0.out.trans (hb1.out.mono B0.out.size))
  have Z0 := Lib.hid hz0
  clear hz0
  try simp only [pu, pa, pz, ps]
  refine wpAnyH_ready (rs := [6]) (by kernel_rfl) (by simp) ?_
  refine AllReadyH.cons (o := ⟨_, _, _, _, _, _⟩) rfl (fun K hK => ?_) AllReadyH.nil
  go_simp
  refine (HTb.out _ _ (HVy.out _ B1.out)).mono ?_; rintro r v2 ⟨z1, rfl, hz1, hb⟩; have hb2 := Lib.hid hb; clear hb
  go_wp2_with fail
  refine hK.out _ _ ?_ (fun hHeld => ?_)
  · (try dsimp only); exact hHeld.below hb2.out
  clear hK K
  have R2 := Lib.hid (obj_below R1.out hb2.out (heap_lt R1.out))
  have B2 := Lib.hid (B1.out.trans (hb2.out.mono B1.out.size))
  have Z1 := Lib.hid hz1
  have Z0 := Lib.hid (Z0.out.below hb2.out)
  clear hz1
  try simp only [pu, pa, pz, ps]
  refine wpAnyH_ready (rs := [7]) (by kernel_rfl) (by simp) ?_
  refine AllReadyH.cons (o := ⟨_, _, _, _, _, _⟩) rfl (fun K hK => ?_) AllReadyH.nil
  go_simp
  refine (ref43_both 14 _ _ _ _ _ (by unfold I64; omega) Z0.out Z1.out).mono ?_; rintro r v3 ⟨z2, rfl, hz2, hb⟩; have hb3 := Lib.hid hb; clear hb
  go_wp2_with fail
  refine hK.out _ _ ?_ (fun hHeld => ?_)
  · (try dsimp only); exact hHeld.below hb3.out
  clear hK K
  have R3 := Lib.hid (obj_below R2.out hb3.out (heap_lt R2.out))
  have B3 := Lib.hid (B2.out.trans (hb3.out.mono B2.out.size))
  have Z2 := Lib.hid hz2
  clear hz2
  obtain ⟨a, k, c, hzf⟩ := ex_form Z2.out
  rw [hzf] at Z2
  rw [hzf]
  clear hzf
  obtain ⟨f0, f1, f2, f3, f4⟩ := frozen5 R3.out
  obtain ⟨g0, g1, g2, g3, g4⟩ := boxed_ex5 R3.out
  have yr := heap_lt R3.out
  try simp only [pu, pa, pz, ps]
  refine wpAnyH_ready (rs := [8]) (by kernel_rfl) (by simp) ?_
  refine AllReadyH.cons (o := ⟨_, _, _, _, _, _⟩) rfl (fun K hK => ?_) AllReadyH.nil
  go_simp
  refine hK.out _ _ ?_ (fun hHeld => ?_)
  · (try dsimp only); exact hHeld.sets HN.out.1 HN.out.2.1 HN.out.2.2 _ _ _ _ _
  clear hK K
  try simp only [pu, pa, pz, ps]
  refine wpAnyH_done (by kernel_rfl) ?_ _
  clear hHeld
  go_wp2_with fail
  obtain ⟨y, hy⟩ : ∃ y, binE 14 Ta Tb = y := ⟨_, rfl⟩
  rw [hy] at Z2 HZ ⊢
  obtain ⟨w5, hW5, oo, HE, HB3⟩ := store_ex R3.out Z2.out HZ.out B3.out (by omega)
  rw [← hW5]
  obtain ⟨e0, e1, e2, e3, e4⟩ := boxed_ex5 oo
  refine bodyPost_ret (by simp [results, Tryd.results49, go_sem, e0, e1, e2, e3, e4]; try rfl) rfl ?_
  exact ⟨_, rfl, HE, HB3⟩
set_option maxRecDepth 100000 in
set_option maxHeartbeats 8000000 in
theorem ref43_Turned_20 (x y Aa Ab Ta Tb : Ex) (hz : noZ (binE 15 (binE 14 Aa Tb) (binE 14 Ta Ab)) = true) (HAa : ∀ w v, ExV w v x → Calls Tryd.prog 18 #[v] w fun r w' => ∃ z, r = .returned z ∧ ExV w' z Aa ∧ Below w.heap.size w w') (HAb : ∀ w v, ExV w v y → Calls Tryd.prog 18 #[v] w fun r w' => ∃ z, r = .returned z ∧ ExV w' z Ab ∧ Below w.heap.size w w') (HTa : ∀ w v, ExV w v x → Calls Tryd.prog 49 #[v] w fun r w' => ∃ z, r = .returned z ∧ ExV w' z Ta ∧ Below w.heap.size w w') (HTb : ∀ w v, ExV w v y → Calls Tryd.prog 49 #[v] w fun r w' => ∃ z, r = .returned z ∧ ExV w' z Tb ∧ Below w.heap.size w w') (w : World) (v : Value) (hv : ExV w v ⟨7, 0, 0, 20, [x, y]⟩) :
    Calls Tryd.prog 49 #[v] w fun r w' => ∃ z, r = .returned z ∧ ExV w' z (binE 15 (binE 14 Aa Tb) (binE 14 Ta Ab)) ∧ Below w.heap.size w w' := by
  obtain ⟨sl, rfl, hr, hrow⟩ := hv
  simp only at hrow
  obtain ⟨sa, sc, rfl⟩ := row_get hrow
  obtain ⟨bx, ox, ss, sn, sc2, rfl, hbx, q1, q2, d0, d1, d2, d3, d4, dV⟩ := ex_at hrow (k := 0) (x := x) rfl
  obtain ⟨_, _, ss', sn', sc2', hh, _, _, _, d5, d6, d7, d8, d9, dV'⟩ := ex_at hrow (k := 1) (x := y) rfl
  obtain ⟨rfl, rfl⟩ : bx = _ ∧ ox = _ := by injection hh with hh; injection hh with h1 h2; exact ⟨h1, h2⟩
  have hl2 : ([x, y] : List Ex).length = 2 := rfl
  rw [hl2]
  clear hl2 hh
  obtain ⟨W0, hW0⟩ : ∃ W0, W0 = (w.alloc (.cells #[.int .i64 7, .int .i64 0, .int .i64 0, .int .i64 20, .slice (some ⟨bx, ox, none⟩) 2 sc] 37)).alloc (.cells #[.int .i64 0, .int .i64 0, .int .i64 0, .int .i64 0, .slice none 0 0] 37) := ⟨_, rfl⟩
  have oE : W0.heap[w.heap.size]? = some (.cells #[.int .i64 7, .int .i64 0, .int .i64 0, .int .i64 20, .slice (some ⟨bx, ox, none⟩) 2 sc] 37) := by rw [hW0]; exact (get_past (by simp)).trans (get_last rfl)
  have oR : W0.heap[w.heap.size + 1]? = some (.cells #[.int .i64 0, .int .i64 0, .int .i64 0, .int .i64 0, .slice none 0 0] 37) := by rw [hW0]; exact get_last (by simp)
  have hbw : Below w.heap.size w W0 := by rw [hW0]; exact by (repeat' (first | (with_reducible exact Below.refl _ _) | (with_reducible assumption) | (with_reducible refine below_drewN ?_ _) | (with_reducible refine Below.alloc ?_ ?_ _) | (with_reducible refine Below.drew ?_) | (with_reducible refine Below.setCell ?_ ?_ _) | go_size))
  have HW0 := Lib.hid hW0
  have HVx := Lib.hid (fun W (hb : Below w.heap.size w W) => dV.below hb)
  have HVy := Lib.hid (fun W (hb : Below w.heap.size w W) => dV'.below hb)
  have c0 : W0.cell? ⟨bx, ox, none⟩ = some (.int .i64 x.op) := (hbw.cell (p := ⟨bx, ox, none⟩) hbx).trans (by simpa using d0)
  have c1 : W0.cell? ⟨bx, ox + 1, none⟩ = some (.int .i64 x.t) := (hbw.cell (p := ⟨bx, ox + 1, none⟩) hbx).trans (by simpa using d1)
  have c2 : W0.cell? ⟨bx, ox + 2, none⟩ = some (.int .i64 x.n) := (hbw.cell (p := ⟨bx, ox + 2, none⟩) hbx).trans (by simpa using d2)
  have c3 : W0.cell? ⟨bx, ox + 3, none⟩ = some (.int .i64 x.m) := (hbw.cell (p := ⟨bx, ox + 3, none⟩) hbx).trans (by simpa using d3)
  have c4 : W0.cell? ⟨bx, ox + 4, none⟩ = some (.slice ss sn sc2) := (hbw.cell (p := ⟨bx, ox + 4, none⟩) hbx).trans (by simpa using d4)
  have c5 : W0.cell? ⟨bx, ox + 5, none⟩ = some (.int .i64 y.op) := (hbw.cell (p := ⟨bx, ox + 5, none⟩) hbx).trans (by simpa using d5)
  have c6 : W0.cell? ⟨bx, ox + 5 + 1, none⟩ = some (.int .i64 y.t) := (hbw.cell (p := ⟨bx, ox + 5 + 1, none⟩) hbx).trans (by simpa using d6)
  have c7 : W0.cell? ⟨bx, ox + 5 + 2, none⟩ = some (.int .i64 y.n) := (hbw.cell (p := ⟨bx, ox + 5 + 2, none⟩) hbx).trans (by simpa using d7)
  have c8 : W0.cell? ⟨bx, ox + 5 + 3, none⟩ = some (.int .i64 y.m) := (hbw.cell (p := ⟨bx, ox + 5 + 3, none⟩) hbx).trans (by simpa using d8)
  have c9 : W0.cell? ⟨bx, ox + 5 + 4, none⟩ = some (.slice ss' sn' sc2') := (hbw.cell (p := ⟨bx, ox + 5 + 4, none⟩) hbx).trans (by simpa using d9)
  have e0 := obj_cell oE (i := 0) rfl
  have e3 := obj_cell oE (i := 3) rfl
  have e4 := obj_cell oE (i := 4) rfl
  have yb : bx < W0.heap.size := Nat.lt_of_lt_of_le hbx hbw.size
  have ye := heap_lt oE
  have yr := heap_lt oR
  have D := Lib.hid (And.intro d0 (And.intro d1 (And.intro d2 (And.intro d3 d4))))
  have D' := Lib.hid (And.intro d5 (And.intro d6 (And.intro d7 (And.intro d8 d9))))
  have HAa := Lib.hid HAa
  have HAb := Lib.hid HAb
  have HTa := Lib.hid HTa
  have HTb := Lib.hid HTb
  have HZ := Lib.hid hz
  have HOE := Lib.hid oE
  have HOR := Lib.hid oR
  have HB0 := Lib.hid hbw
  obtain ⟨xo, xt, xn, xm, xl⟩ := x
  obtain ⟨yo, yt, yn, ym, yl⟩ := y
  simp only at c0 c1 c2 c3 c5 c6 c7 c8 d0 d1 d2 d3 d5 d6 d7 d8 HVx HVy
  clear hW0 oE oR hbw dV dV' hr hrow q1 q2 hz
  go_enter Tryd.func49, Tryd.ntmps49
  go_upto_region 7 with fail
  rw [← HW0.out]
  go_upto_region 8 with fail
  have HOA := Lib.hid (show (W0.alloc (.cells #[.int .i64 xo, .int .i64 xt, .int .i64 xn, .int .i64 xm, .slice ss sn sc2] 37)).heap[W0.heap.size]? = some (.cells #[.int .i64 xo, .int .i64 xt, .int .i64 xn, .int .i64 xm, .slice ss sn sc2] 37) from get_last rfl)
  have hb1 : Below W0.heap.size W0 (W0.alloc (.cells #[.int .i64 xo, .int .i64 xt, .int .i64 xn, .int .i64 xm, .slice ss sn sc2] 37)) := by (repeat' (first | (with_reducible exact Below.refl _ _) | (with_reducible assumption) | (with_reducible refine below_drewN ?_ _) | (with_reducible refine Below.alloc ?_ ?_ _) | (with_reducible refine Below.drew ?_) | (with_reducible refine Below.setCell ?_ ?_ _) | go_size))
  generalize hW1 : W0.alloc (.cells #[.int .i64 xo, .int .i64 xt, .int .i64 xn, .int .i64 xm, .slice ss sn sc2] 37) = W1 at *
  have HOE1 := Lib.hid (obj_below HOE.out hb1 ye)
  have HOR1 := Lib.hid (obj_below HOR.out hb1 yr)
  have HB1 := Lib.hid (HB0.out.trans (hb1.mono HB0.out.size))
  clear c0 c1 c2 c3 c4 c5 c6 c7 c8 c9 e0 e3 e4 hW1 hb1
  have c0 : W1.cell? ⟨bx, ox, none⟩ = some (.int .i64 xo) := (HB1.out.cell (p := ⟨bx, ox, none⟩) hbx).trans (by simpa using d0)
  have c1 : W1.cell? ⟨bx, ox + 1, none⟩ = some (.int .i64 xt) := (HB1.out.cell (p := ⟨bx, ox + 1, none⟩) hbx).trans (by simpa using d1)
  have c2 : W1.cell? ⟨bx, ox + 2, none⟩ = some (.int .i64 xn) := (HB1.out.cell (p := ⟨bx, ox + 2, none⟩) hbx).trans (by simpa using d2)
  have c3 : W1.cell? ⟨bx, ox + 3, none⟩ = some (.int .i64 xm) := (HB1.out.cell (p := ⟨bx, ox + 3, none⟩) hbx).trans (by simpa using d3)
  have c4 : W1.cell? ⟨bx, ox + 4, none⟩ = some (.slice ss sn sc2) := (HB1.out.cell (p := ⟨bx, ox + 4, none⟩) hbx).trans (by simpa using d4)
  have c5 : W1.cell? ⟨bx, ox + 5, none⟩ = some (.int .i64 yo) := (HB1.out.cell (p := ⟨bx, ox + 5, none⟩) hbx).trans (by simpa using d5)
  have c6 : W1.cell? ⟨bx, ox + 5 + 1, none⟩ = some (.int .i64 yt) := (HB1.out.cell (p := ⟨bx, ox + 5 + 1, none⟩) hbx).trans (by simpa using d6)
  have c7 : W1.cell? ⟨bx, ox + 5 + 2, none⟩ = some (.int .i64 yn) := (HB1.out.cell (p := ⟨bx, ox + 5 + 2, none⟩) hbx).trans (by simpa using d7)
  have c8 : W1.cell? ⟨bx, ox + 5 + 3, none⟩ = some (.int .i64 ym) := (HB1.out.cell (p := ⟨bx, ox + 5 + 3, none⟩) hbx).trans (by simpa using d8)
  have c9 : W1.cell? ⟨bx, ox + 5 + 4, none⟩ = some (.slice ss' sn' sc2') := (HB1.out.cell (p := ⟨bx, ox + 5 + 4, none⟩) hbx).trans (by simpa using d9)
  have e0 := obj_cell HOE1.out (i := 0) rfl
  have e3 := obj_cell HOE1.out (i := 3) rfl
  have e4 := obj_cell HOE1.out (i := 4) rfl
  have ya := heap_lt HOA.out
  go_upto_region 9 with fail
  have HOB := Lib.hid (show (W1.alloc (.cells #[.int .i64 yo, .int .i64 yt, .int .i64 yn, .int .i64 ym, .slice ss' sn' sc2'] 37)).heap[W1.heap.size]? = some (.cells #[.int .i64 yo, .int .i64 yt, .int .i64 yn, .int .i64 ym, .slice ss' sn' sc2'] 37) from get_last rfl)
  have hb1 : Below W1.heap.size W1 (W1.alloc (.cells #[.int .i64 yo, .int .i64 yt, .int .i64 yn, .int .i64 ym, .slice ss' sn' sc2'] 37)) := by (repeat' (first | (with_reducible exact Below.refl _ _) | (with_reducible assumption) | (with_reducible refine below_drewN ?_ _) | (with_reducible refine Below.alloc ?_ ?_ _) | (with_reducible refine Below.drew ?_) | (with_reducible refine Below.setCell ?_ ?_ _) | go_size))
  generalize hW2 : W1.alloc (.cells #[.int .i64 yo, .int .i64 yt, .int .i64 yn, .int .i64 ym, .slice ss' sn' sc2'] 37) = W2 at *
  have HOE2 := Lib.hid (obj_below HOE1.out hb1 (heap_lt HOE1.out))
  have HOR2 := Lib.hid (obj_below HOR1.out hb1 (heap_lt HOR1.out))
  have HOA2 := Lib.hid (obj_below HOA.out hb1 ya)
  have HB2 := Lib.hid (HB1.out.trans (hb1.mono HB1.out.size))
  have n1 : w.heap.size + 1 ≠ w.heap.size := by omega
  have n2 : w.heap.size + 1 ≠ W0.heap.size := by omega
  have n3 : w.heap.size + 1 ≠ W1.heap.size := by have := heap_lt HOR1.out; omega
  have HN := Lib.hid (And.intro n1 (And.intro n2 n3))
  clear c0 c1 c2 c3 c4 c5 c6 c7 c8 c9 e0 e3 e4 hW2 hb1 n1 n2 n3 yb ye yr ya d0 d1 d2 d3 d4 d5 d6 d7 d8 d9 HOE HOR HOE1 HOR1 HB0 HB1 HOA D D' hbx
  have e0 := obj_cell HOE2.out (i := 0) rfl
  have e3 := obj_cell HOE2.out (i := 3) rfl
  go_upto_region 12 with fail
  clear e0 e3
  have R0 := Lib.hid (show W2.drew.heap[w.heap.size + 1]? = _ from HOR2.out)
  have B0 := Lib.hid (show Below w.heap.size w W2.drew from HB2.out.drew)
  have hT0 : ThreeAt w.heap.size W0.heap.size W1.heap.size _ _ _ W2.drew := ⟨HOE2.out, HOA2.out, HOB.out⟩
  clear HOE2 HOA2 HOB HOR2 HB2
  refine wp_region_held_drew (S := (fun w' => ThreeAt w.heap.size W0.heap.size W1.heap.size (.cells #[.int .i64 7, .int .i64 0, .int .i64 0, .int .i64 20, .slice (some ⟨bx, ox, none⟩) 2 sc] 37) (.cells #[.int .i64 xo, .int .i64 xt, .int .i64 xn, .int .i64 xm, .slice ss sn sc2] 37) (.cells #[.int .i64 yo, .int .i64 yt, .int .i64 yn, .int .i64 ym, .slice ss' sn' sc2'] 37) w')) (by kernel_rfl) ?_ (fun hHeld => ?_)
  · (try dsimp only); exact hT0
  refine tk 0 (v := ?_) (hy := ?_) (h := ?_); rotate_left
  · intro wt hSw; (try dsimp only at hSw); have e3 := obj_cell hSw.e (i := 3) rfl; obtain ⟨a0, a1, a2, a3, a4⟩ := boxed_ex5 hSw.a; obtain ⟨b0, b1, b2, b3, b4⟩ := boxed_ex5 hSw.b; have za := heap_lt hSw.a; have zb := heap_lt hSw.b; go_simp <;> with_reducible rfl
  try simp only [pu, pa, pz, ps]
  refine tk 2 (v := ?_) (hy := ?_) (h := ?_); rotate_left
  · intro wt hSw; (try dsimp only at hSw); have e3 := obj_cell hSw.e (i := 3) rfl; obtain ⟨a0, a1, a2, a3, a4⟩ := boxed_ex5 hSw.a; obtain ⟨b0, b1, b2, b3, b4⟩ := boxed_ex5 hSw.b; have za := heap_lt hSw.a; have zb := heap_lt hSw.b; go_simp <;> with_reducible rfl
  try simp only [pu, pa, pz, ps]
  refine tk 5 (v := ?_) (hy := ?_) (h := ?_); rotate_left
  · intro wt hSw; (try dsimp only at hSw); have e3 := obj_cell hSw.e (i := 3) rfl; obtain ⟨a0, a1, a2, a3, a4⟩ := boxed_ex5 hSw.a; obtain ⟨b0, b1, b2, b3, b4⟩ := boxed_ex5 hSw.b; have za := heap_lt hSw.a; have zb := heap_lt hSw.b; go_simp <;> with_reducible rfl
  try simp only [pu, pa, pz, ps]
  refine tk 7 (v := ?_) (hy := ?_) (h := ?_); rotate_left
  · intro wt hSw; (try dsimp only at hSw); have e3 := obj_cell hSw.e (i := 3) rfl; obtain ⟨a0, a1, a2, a3, a4⟩ := boxed_ex5 hSw.a; obtain ⟨b0, b1, b2, b3, b4⟩ := boxed_ex5 hSw.b; have za := heap_lt hSw.a; have zb := heap_lt hSw.b; go_simp <;> with_reducible rfl
  try simp only [pu, pa, pz, ps]
  refine wpAnyH_ready (rs := [1]) (by kernel_rfl) (by simp) ?_
  refine AllReadyH.cons (o := ⟨_, _, _, _, _, _⟩) rfl (fun K hK => ?_) AllReadyH.nil
  go_simp
  refine (HAa.out _ _ (HVx.out _ B0.out)).mono ?_; rintro r v1 ⟨z0, rfl, hz0, hb⟩; have hb1 := Lib.hid hb; clear hb
  go_wp2_with fail
  refine hK.out _ _ ?_ (fun hHeld => ?_)
  · (try dsimp only); exact hHeld.below hb1.out
  clear hK K
  have R1 := Lib.hid (obj_below R0.out hb1.out (heap_lt R0.out))
  have B1 := Lib.hid (B0.out.trans (hb1.out.mono B0.out.size))
  have Z0 := Lib.hid hz0
  clear hz0
  try simp only [pu, pa, pz, ps]
  refine wpAnyH_ready (rs := [3]) (by kernel_rfl) (by simp) ?_
  refine AllReadyH.cons (o := ⟨_, _, _, _, _, _⟩) rfl (fun K hK => ?_) AllReadyH.nil
  go_simp
  refine (HTb.out _ _ (HVy.out _ B1.out)).mono ?_; rintro r v2 ⟨z1, rfl, hz1, hb⟩; have hb2 := Lib.hid hb; clear hb
  go_wp2_with fail
  refine hK.out _ _ ?_ (fun hHeld => ?_)
  · (try dsimp only); exact hHeld.below hb2.out
  clear hK K
  have R2 := Lib.hid (obj_below R1.out hb2.out (heap_lt R1.out))
  have B2 := Lib.hid (B1.out.trans (hb2.out.mono B1.out.size))
  have Z1 := Lib.hid hz1
  have Z0 := Lib.hid (Z0.out.below hb2.out)
  clear hz1
  try simp only [pu, pa, pz, ps]
  refine wpAnyH_ready (rs := [4]) (by kernel_rfl) (by simp) ?_
  refine AllReadyH.cons (o := ⟨_, _, _, _, _, _⟩) rfl (fun K hK => ?_) AllReadyH.nil
  go_simp
  refine (ref43_both 14 _ _ _ _ _ (by unfold I64; omega) Z0.out Z1.out).mono ?_; rintro r v3 ⟨z2, rfl, hz2, hb⟩; have hb3 := Lib.hid hb; clear hb
  go_wp2_with fail
  refine hK.out _ _ ?_ (fun hHeld => ?_)
  · (try dsimp only); exact hHeld.below hb3.out
  clear hK K
  have R3 := Lib.hid (obj_below R2.out hb3.out (heap_lt R2.out))
  have B3 := Lib.hid (B2.out.trans (hb3.out.mono B2.out.size))
  have Z2 := Lib.hid hz2
  clear hz2
  try simp only [pu, pa, pz, ps]
  refine wpAnyH_ready (rs := [6]) (by kernel_rfl) (by simp) ?_
  refine AllReadyH.cons (o := ⟨_, _, _, _, _, _⟩) rfl (fun K hK => ?_) AllReadyH.nil
  go_simp
  refine (HTa.out _ _ (HVx.out _ B3.out)).mono ?_; rintro r v4 ⟨z3, rfl, hz3, hb⟩; have hb4 := Lib.hid hb; clear hb
  go_wp2_with fail
  refine hK.out _ _ ?_ (fun hHeld => ?_)
  · (try dsimp only); exact hHeld.below hb4.out
  clear hK K
  have R4 := Lib.hid (obj_below R3.out hb4.out (heap_lt R3.out))
  have B4 := Lib.hid (B3.out.trans (hb4.out.mono B3.out.size))
  have Z3 := Lib.hid hz3
  have Z2 := Lib.hid (Z2.out.below hb4.out)
  clear hz3
  try simp only [pu, pa, pz, ps]
  refine wpAnyH_ready (rs := [8]) (by kernel_rfl) (by simp) ?_
  refine AllReadyH.cons (o := ⟨_, _, _, _, _, _⟩) rfl (fun K hK => ?_) AllReadyH.nil
  go_simp
  refine (HAb.out _ _ (HVy.out _ B4.out)).mono ?_; rintro r v5 ⟨z4, rfl, hz4, hb⟩; have hb5 := Lib.hid hb; clear hb
  go_wp2_with fail
  refine hK.out _ _ ?_ (fun hHeld => ?_)
  · (try dsimp only); exact hHeld.below hb5.out
  clear hK K
  have R5 := Lib.hid (obj_below R4.out hb5.out (heap_lt R4.out))
  have B5 := Lib.hid (B4.out.trans (hb5.out.mono B4.out.size))
  have Z4 := Lib.hid hz4
  have Z2 := Lib.hid (Z2.out.below hb5.out)
  have Z3 := Lib.hid (Z3.out.below hb5.out)
  clear hz4
  try simp only [pu, pa, pz, ps]
  refine wpAnyH_ready (rs := [9]) (by kernel_rfl) (by simp) ?_
  refine AllReadyH.cons (o := ⟨_, _, _, _, _, _⟩) rfl (fun K hK => ?_) AllReadyH.nil
  go_simp
  refine (ref43_both 14 _ _ _ _ _ (by unfold I64; omega) Z3.out Z4.out).mono ?_; rintro r v6 ⟨z5, rfl, hz5, hb⟩; have hb6 := Lib.hid hb; clear hb
  go_wp2_with fail
  refine hK.out _ _ ?_ (fun hHeld => ?_)
  · (try dsimp only); exact hHeld.below hb6.out
  clear hK K
  have R6 := Lib.hid (obj_below R5.out hb6.out (heap_lt R5.out))
  have B6 := Lib.hid (B5.out.trans (hb6.out.mono B5.out.size))
  have Z5 := Lib.hid hz5
  have Z2 := Lib.hid (Z2.out.below hb6.out)
  clear hz5
  try simp only [pu, pa, pz, ps]
  refine wpAnyH_ready (rs := [10]) (by kernel_rfl) (by simp) ?_
  refine AllReadyH.cons (o := ⟨_, _, _, _, _, _⟩) rfl (fun K hK => ?_) AllReadyH.nil
  go_simp
  refine (ref43_both 15 _ _ _ _ _ (by unfold I64; omega) Z2.out Z5.out).mono ?_; rintro r v7 ⟨z6, rfl, hz6, hb⟩; have hb7 := Lib.hid hb; clear hb
  go_wp2_with fail
  refine hK.out _ _ ?_ (fun hHeld => ?_)
  · (try dsimp only); exact hHeld.below hb7.out
  clear hK K
  have R7 := Lib.hid (obj_below R6.out hb7.out (heap_lt R6.out))
  have B7 := Lib.hid (B6.out.trans (hb7.out.mono B6.out.size))
  have Z6 := Lib.hid hz6
  clear hz6
  obtain ⟨a, k, c, hzf⟩ := ex_form Z6.out
  rw [hzf] at Z6
  rw [hzf]
  clear hzf
  obtain ⟨f0, f1, f2, f3, f4⟩ := frozen5 R7.out
  obtain ⟨g0, g1, g2, g3, g4⟩ := boxed_ex5 R7.out
  have yr := heap_lt R7.out
  try simp only [pu, pa, pz, ps]
  refine wpAnyH_ready (rs := [11]) (by kernel_rfl) (by simp) ?_
  refine AllReadyH.cons (o := ⟨_, _, _, _, _, _⟩) rfl (fun K hK => ?_) AllReadyH.nil
  go_simp
  refine hK.out _ _ ?_ (fun hHeld => ?_)
  · (try dsimp only); exact hHeld.sets HN.out.1 HN.out.2.1 HN.out.2.2 _ _ _ _ _
  clear hK K
  try simp only [pu, pa, pz, ps]
  refine wpAnyH_done (by kernel_rfl) ?_ _
  clear hHeld
  go_wp2_with fail
  obtain ⟨y, hy⟩ : ∃ y, binE 15 (binE 14 Aa Tb) (binE 14 Ta Ab) = y := ⟨_, rfl⟩
  rw [hy] at Z6 HZ ⊢
  obtain ⟨w5, hW5, oo, HE, HB3⟩ := store_ex R7.out Z6.out HZ.out B7.out (by omega)
  rw [← hW5]
  obtain ⟨e0, e1, e2, e3, e4⟩ := boxed_ex5 oo
  refine bodyPost_ret (by simp [results, Tryd.results49, go_sem, e0, e1, e2, e3, e4]; try rfl) rfl ?_
  exact ⟨_, rfl, HE, HB3⟩
set_option maxRecDepth 100000 in
set_option maxHeartbeats 8000000 in
theorem ref43_Turned_ne (x y Aa Ab Ta Tb : Ex) (m : Int) (q14 : (m == 14) = false) (q15 : (m == 15) = false) (q20 : (m == 20) = false) (hz : noZ (binE 15 (binE 14 Aa Ab) (binE 14 Ta Tb)) = true) (HAa : ∀ w v, ExV w v x → Calls Tryd.prog 18 #[v] w fun r w' => ∃ z, r = .returned z ∧ ExV w' z Aa ∧ Below w.heap.size w w') (HAb : ∀ w v, ExV w v y → Calls Tryd.prog 18 #[v] w fun r w' => ∃ z, r = .returned z ∧ ExV w' z Ab ∧ Below w.heap.size w w') (HTa : ∀ w v, ExV w v x → Calls Tryd.prog 49 #[v] w fun r w' => ∃ z, r = .returned z ∧ ExV w' z Ta ∧ Below w.heap.size w w') (HTb : ∀ w v, ExV w v y → Calls Tryd.prog 49 #[v] w fun r w' => ∃ z, r = .returned z ∧ ExV w' z Tb ∧ Below w.heap.size w w') (w : World) (v : Value) (hv : ExV w v ⟨7, 0, 0, m, [x, y]⟩) :
    Calls Tryd.prog 49 #[v] w fun r w' => ∃ z, r = .returned z ∧ ExV w' z (binE 15 (binE 14 Aa Ab) (binE 14 Ta Tb)) ∧ Below w.heap.size w w' := by
  obtain ⟨sl, rfl, hr, hrow⟩ := hv
  simp only at hrow
  obtain ⟨sa, sc, rfl⟩ := row_get hrow
  obtain ⟨bx, ox, ss, sn, sc2, rfl, hbx, q1, q2, d0, d1, d2, d3, d4, dV⟩ := ex_at hrow (k := 0) (x := x) rfl
  obtain ⟨_, _, ss', sn', sc2', hh, _, _, _, d5, d6, d7, d8, d9, dV'⟩ := ex_at hrow (k := 1) (x := y) rfl
  obtain ⟨rfl, rfl⟩ : bx = _ ∧ ox = _ := by injection hh with hh; injection hh with h1 h2; exact ⟨h1, h2⟩
  have hl2 : ([x, y] : List Ex).length = 2 := rfl
  rw [hl2]
  clear hl2 hh
  obtain ⟨W0, hW0⟩ : ∃ W0, W0 = (w.alloc (.cells #[.int .i64 7, .int .i64 0, .int .i64 0, .int .i64 m, .slice (some ⟨bx, ox, none⟩) 2 sc] 37)).alloc (.cells #[.int .i64 0, .int .i64 0, .int .i64 0, .int .i64 0, .slice none 0 0] 37) := ⟨_, rfl⟩
  have oE : W0.heap[w.heap.size]? = some (.cells #[.int .i64 7, .int .i64 0, .int .i64 0, .int .i64 m, .slice (some ⟨bx, ox, none⟩) 2 sc] 37) := by rw [hW0]; exact (get_past (by simp)).trans (get_last rfl)
  have oR : W0.heap[w.heap.size + 1]? = some (.cells #[.int .i64 0, .int .i64 0, .int .i64 0, .int .i64 0, .slice none 0 0] 37) := by rw [hW0]; exact get_last (by simp)
  have hbw : Below w.heap.size w W0 := by rw [hW0]; exact by (repeat' (first | (with_reducible exact Below.refl _ _) | (with_reducible assumption) | (with_reducible refine below_drewN ?_ _) | (with_reducible refine Below.alloc ?_ ?_ _) | (with_reducible refine Below.drew ?_) | (with_reducible refine Below.setCell ?_ ?_ _) | go_size))
  have HW0 := Lib.hid hW0
  have HVx := Lib.hid (fun W (hb : Below w.heap.size w W) => dV.below hb)
  have HVy := Lib.hid (fun W (hb : Below w.heap.size w W) => dV'.below hb)
  have c0 : W0.cell? ⟨bx, ox, none⟩ = some (.int .i64 x.op) := (hbw.cell (p := ⟨bx, ox, none⟩) hbx).trans (by simpa using d0)
  have c1 : W0.cell? ⟨bx, ox + 1, none⟩ = some (.int .i64 x.t) := (hbw.cell (p := ⟨bx, ox + 1, none⟩) hbx).trans (by simpa using d1)
  have c2 : W0.cell? ⟨bx, ox + 2, none⟩ = some (.int .i64 x.n) := (hbw.cell (p := ⟨bx, ox + 2, none⟩) hbx).trans (by simpa using d2)
  have c3 : W0.cell? ⟨bx, ox + 3, none⟩ = some (.int .i64 x.m) := (hbw.cell (p := ⟨bx, ox + 3, none⟩) hbx).trans (by simpa using d3)
  have c4 : W0.cell? ⟨bx, ox + 4, none⟩ = some (.slice ss sn sc2) := (hbw.cell (p := ⟨bx, ox + 4, none⟩) hbx).trans (by simpa using d4)
  have c5 : W0.cell? ⟨bx, ox + 5, none⟩ = some (.int .i64 y.op) := (hbw.cell (p := ⟨bx, ox + 5, none⟩) hbx).trans (by simpa using d5)
  have c6 : W0.cell? ⟨bx, ox + 5 + 1, none⟩ = some (.int .i64 y.t) := (hbw.cell (p := ⟨bx, ox + 5 + 1, none⟩) hbx).trans (by simpa using d6)
  have c7 : W0.cell? ⟨bx, ox + 5 + 2, none⟩ = some (.int .i64 y.n) := (hbw.cell (p := ⟨bx, ox + 5 + 2, none⟩) hbx).trans (by simpa using d7)
  have c8 : W0.cell? ⟨bx, ox + 5 + 3, none⟩ = some (.int .i64 y.m) := (hbw.cell (p := ⟨bx, ox + 5 + 3, none⟩) hbx).trans (by simpa using d8)
  have c9 : W0.cell? ⟨bx, ox + 5 + 4, none⟩ = some (.slice ss' sn' sc2') := (hbw.cell (p := ⟨bx, ox + 5 + 4, none⟩) hbx).trans (by simpa using d9)
  have e0 := obj_cell oE (i := 0) rfl
  have e3 := obj_cell oE (i := 3) rfl
  have e4 := obj_cell oE (i := 4) rfl
  have yb : bx < W0.heap.size := Nat.lt_of_lt_of_le hbx hbw.size
  have ye := heap_lt oE
  have yr := heap_lt oR
  have D := Lib.hid (And.intro d0 (And.intro d1 (And.intro d2 (And.intro d3 d4))))
  have D' := Lib.hid (And.intro d5 (And.intro d6 (And.intro d7 (And.intro d8 d9))))
  have HAa := Lib.hid HAa
  have HAb := Lib.hid HAb
  have HTa := Lib.hid HTa
  have HTb := Lib.hid HTb
  have HZ := Lib.hid hz
  have HOE := Lib.hid oE
  have HOR := Lib.hid oR
  have HB0 := Lib.hid hbw
  obtain ⟨xo, xt, xn, xm, xl⟩ := x
  obtain ⟨yo, yt, yn, ym, yl⟩ := y
  simp only at c0 c1 c2 c3 c5 c6 c7 c8 d0 d1 d2 d3 d5 d6 d7 d8 HVx HVy
  clear hW0 oE oR hbw dV dV' hr hrow q1 q2 hz
  go_enter Tryd.func49, Tryd.ntmps49
  go_upto_region 7 with fail
  rw [← HW0.out]
  go_upto_region 8 with fail
  have HOA := Lib.hid (show (W0.alloc (.cells #[.int .i64 xo, .int .i64 xt, .int .i64 xn, .int .i64 xm, .slice ss sn sc2] 37)).heap[W0.heap.size]? = some (.cells #[.int .i64 xo, .int .i64 xt, .int .i64 xn, .int .i64 xm, .slice ss sn sc2] 37) from get_last rfl)
  have hb1 : Below W0.heap.size W0 (W0.alloc (.cells #[.int .i64 xo, .int .i64 xt, .int .i64 xn, .int .i64 xm, .slice ss sn sc2] 37)) := by (repeat' (first | (with_reducible exact Below.refl _ _) | (with_reducible assumption) | (with_reducible refine below_drewN ?_ _) | (with_reducible refine Below.alloc ?_ ?_ _) | (with_reducible refine Below.drew ?_) | (with_reducible refine Below.setCell ?_ ?_ _) | go_size))
  generalize hW1 : W0.alloc (.cells #[.int .i64 xo, .int .i64 xt, .int .i64 xn, .int .i64 xm, .slice ss sn sc2] 37) = W1 at *
  have HOE1 := Lib.hid (obj_below HOE.out hb1 ye)
  have HOR1 := Lib.hid (obj_below HOR.out hb1 yr)
  have HB1 := Lib.hid (HB0.out.trans (hb1.mono HB0.out.size))
  clear c0 c1 c2 c3 c4 c5 c6 c7 c8 c9 e0 e3 e4 hW1 hb1
  have c0 : W1.cell? ⟨bx, ox, none⟩ = some (.int .i64 xo) := (HB1.out.cell (p := ⟨bx, ox, none⟩) hbx).trans (by simpa using d0)
  have c1 : W1.cell? ⟨bx, ox + 1, none⟩ = some (.int .i64 xt) := (HB1.out.cell (p := ⟨bx, ox + 1, none⟩) hbx).trans (by simpa using d1)
  have c2 : W1.cell? ⟨bx, ox + 2, none⟩ = some (.int .i64 xn) := (HB1.out.cell (p := ⟨bx, ox + 2, none⟩) hbx).trans (by simpa using d2)
  have c3 : W1.cell? ⟨bx, ox + 3, none⟩ = some (.int .i64 xm) := (HB1.out.cell (p := ⟨bx, ox + 3, none⟩) hbx).trans (by simpa using d3)
  have c4 : W1.cell? ⟨bx, ox + 4, none⟩ = some (.slice ss sn sc2) := (HB1.out.cell (p := ⟨bx, ox + 4, none⟩) hbx).trans (by simpa using d4)
  have c5 : W1.cell? ⟨bx, ox + 5, none⟩ = some (.int .i64 yo) := (HB1.out.cell (p := ⟨bx, ox + 5, none⟩) hbx).trans (by simpa using d5)
  have c6 : W1.cell? ⟨bx, ox + 5 + 1, none⟩ = some (.int .i64 yt) := (HB1.out.cell (p := ⟨bx, ox + 5 + 1, none⟩) hbx).trans (by simpa using d6)
  have c7 : W1.cell? ⟨bx, ox + 5 + 2, none⟩ = some (.int .i64 yn) := (HB1.out.cell (p := ⟨bx, ox + 5 + 2, none⟩) hbx).trans (by simpa using d7)
  have c8 : W1.cell? ⟨bx, ox + 5 + 3, none⟩ = some (.int .i64 ym) := (HB1.out.cell (p := ⟨bx, ox + 5 + 3, none⟩) hbx).trans (by simpa using d8)
  have c9 : W1.cell? ⟨bx, ox + 5 + 4, none⟩ = some (.slice ss' sn' sc2') := (HB1.out.cell (p := ⟨bx, ox + 5 + 4, none⟩) hbx).trans (by simpa using d9)
  have e0 := obj_cell HOE1.out (i := 0) rfl
  have e3 := obj_cell HOE1.out (i := 3) rfl
  have e4 := obj_cell HOE1.out (i := 4) rfl
  have ya := heap_lt HOA.out
  go_upto_region 9 with fail
  have HOB := Lib.hid (show (W1.alloc (.cells #[.int .i64 yo, .int .i64 yt, .int .i64 yn, .int .i64 ym, .slice ss' sn' sc2'] 37)).heap[W1.heap.size]? = some (.cells #[.int .i64 yo, .int .i64 yt, .int .i64 yn, .int .i64 ym, .slice ss' sn' sc2'] 37) from get_last rfl)
  have hb1 : Below W1.heap.size W1 (W1.alloc (.cells #[.int .i64 yo, .int .i64 yt, .int .i64 yn, .int .i64 ym, .slice ss' sn' sc2'] 37)) := by (repeat' (first | (with_reducible exact Below.refl _ _) | (with_reducible assumption) | (with_reducible refine below_drewN ?_ _) | (with_reducible refine Below.alloc ?_ ?_ _) | (with_reducible refine Below.drew ?_) | (with_reducible refine Below.setCell ?_ ?_ _) | go_size))
  generalize hW2 : W1.alloc (.cells #[.int .i64 yo, .int .i64 yt, .int .i64 yn, .int .i64 ym, .slice ss' sn' sc2'] 37) = W2 at *
  have HOE2 := Lib.hid (obj_below HOE1.out hb1 (heap_lt HOE1.out))
  have HOR2 := Lib.hid (obj_below HOR1.out hb1 (heap_lt HOR1.out))
  have HOA2 := Lib.hid (obj_below HOA.out hb1 ya)
  have HB2 := Lib.hid (HB1.out.trans (hb1.mono HB1.out.size))
  have n1 : w.heap.size + 1 ≠ w.heap.size := by omega
  have n2 : w.heap.size + 1 ≠ W0.heap.size := by omega
  have n3 : w.heap.size + 1 ≠ W1.heap.size := by have := heap_lt HOR1.out; omega
  have HN := Lib.hid (And.intro n1 (And.intro n2 n3))
  clear c0 c1 c2 c3 c4 c5 c6 c7 c8 c9 e0 e3 e4 hW2 hb1 n1 n2 n3 yb ye yr ya d0 d1 d2 d3 d4 d5 d6 d7 d8 d9 HOE HOR HOE1 HOR1 HB0 HB1 HOA D D' hbx
  have e0 := obj_cell HOE2.out (i := 0) rfl
  have e3 := obj_cell HOE2.out (i := 3) rfl
  go_upto_region 13 with fail
  clear e0 e3
  have R0 := Lib.hid (show W2.drew.heap[w.heap.size + 1]? = _ from HOR2.out)
  have B0 := Lib.hid (show Below w.heap.size w W2.drew from HB2.out.drew)
  have hT0 : ThreeAt w.heap.size W0.heap.size W1.heap.size _ _ _ W2.drew := ⟨HOE2.out, HOA2.out, HOB.out⟩
  clear HOE2 HOA2 HOB HOR2 HB2
  refine wp_region_held_drew (S := (fun w' => ThreeAt w.heap.size W0.heap.size W1.heap.size (.cells #[.int .i64 7, .int .i64 0, .int .i64 0, .int .i64 m, .slice (some ⟨bx, ox, none⟩) 2 sc] 37) (.cells #[.int .i64 xo, .int .i64 xt, .int .i64 xn, .int .i64 xm, .slice ss sn sc2] 37) (.cells #[.int .i64 yo, .int .i64 yt, .int .i64 yn, .int .i64 ym, .slice ss' sn' sc2'] 37) w')) (by kernel_rfl) ?_ (fun hHeld => ?_)
  · (try dsimp only); exact hT0
  refine tk 0 (v := ?_) (hy := ?_) (h := ?_); rotate_left
  · intro wt hSw; (try dsimp only at hSw); have e3 := obj_cell hSw.e (i := 3) rfl; obtain ⟨a0, a1, a2, a3, a4⟩ := boxed_ex5 hSw.a; obtain ⟨b0, b1, b2, b3, b4⟩ := boxed_ex5 hSw.b; have za := heap_lt hSw.a; have zb := heap_lt hSw.b; go_simp <;> with_reducible rfl
  try simp only [pu, pa, pz, ps]
  refine tk 2 (v := ?_) (hy := ?_) (h := ?_); rotate_left
  · intro wt hSw; (try dsimp only at hSw); have e3 := obj_cell hSw.e (i := 3) rfl; obtain ⟨a0, a1, a2, a3, a4⟩ := boxed_ex5 hSw.a; obtain ⟨b0, b1, b2, b3, b4⟩ := boxed_ex5 hSw.b; have za := heap_lt hSw.a; have zb := heap_lt hSw.b; go_simp <;> with_reducible rfl
  try simp only [pu, pa, pz, ps]
  refine tk 5 (v := ?_) (hy := ?_) (h := ?_); rotate_left
  · intro wt hSw; (try dsimp only at hSw); have e3 := obj_cell hSw.e (i := 3) rfl; obtain ⟨a0, a1, a2, a3, a4⟩ := boxed_ex5 hSw.a; obtain ⟨b0, b1, b2, b3, b4⟩ := boxed_ex5 hSw.b; have za := heap_lt hSw.a; have zb := heap_lt hSw.b; go_simp <;> with_reducible rfl
  try simp only [pu, pa, pz, ps]
  refine tk 7 (v := ?_) (hy := ?_) (h := ?_); rotate_left
  · intro wt hSw; (try dsimp only at hSw); have e3 := obj_cell hSw.e (i := 3) rfl; obtain ⟨a0, a1, a2, a3, a4⟩ := boxed_ex5 hSw.a; obtain ⟨b0, b1, b2, b3, b4⟩ := boxed_ex5 hSw.b; have za := heap_lt hSw.a; have zb := heap_lt hSw.b; go_simp <;> with_reducible rfl
  try simp only [pu, pa, pz, ps]
  refine wpAnyH_ready (rs := [1]) (by kernel_rfl) (by simp) ?_
  refine AllReadyH.cons (o := ⟨_, _, _, _, _, _⟩) rfl (fun K hK => ?_) AllReadyH.nil
  go_simp
  refine (HAa.out _ _ (HVx.out _ B0.out)).mono ?_; rintro r v1 ⟨z0, rfl, hz0, hb⟩; have hb1 := Lib.hid hb; clear hb
  go_wp2_with fail
  refine hK.out _ _ ?_ (fun hHeld => ?_)
  · (try dsimp only); exact hHeld.below hb1.out
  clear hK K
  have R1 := Lib.hid (obj_below R0.out hb1.out (heap_lt R0.out))
  have B1 := Lib.hid (B0.out.trans (hb1.out.mono B0.out.size))
  have Z0 := Lib.hid hz0
  clear hz0
  try simp only [pu, pa, pz, ps]
  refine wpAnyH_ready (rs := [3]) (by kernel_rfl) (by simp) ?_
  refine AllReadyH.cons (o := ⟨_, _, _, _, _, _⟩) rfl (fun K hK => ?_) AllReadyH.nil
  go_simp
  refine (HAb.out _ _ (HVy.out _ B1.out)).mono ?_; rintro r v2 ⟨z1, rfl, hz1, hb⟩; have hb2 := Lib.hid hb; clear hb
  go_wp2_with fail
  refine hK.out _ _ ?_ (fun hHeld => ?_)
  · (try dsimp only); exact hHeld.below hb2.out
  clear hK K
  have R2 := Lib.hid (obj_below R1.out hb2.out (heap_lt R1.out))
  have B2 := Lib.hid (B1.out.trans (hb2.out.mono B1.out.size))
  have Z1 := Lib.hid hz1
  have Z0 := Lib.hid (Z0.out.below hb2.out)
  clear hz1
  try simp only [pu, pa, pz, ps]
  refine wpAnyH_ready (rs := [4]) (by kernel_rfl) (by simp) ?_
  refine AllReadyH.cons (o := ⟨_, _, _, _, _, _⟩) rfl (fun K hK => ?_) AllReadyH.nil
  go_simp
  refine (ref43_both 14 _ _ _ _ _ (by unfold I64; omega) Z0.out Z1.out).mono ?_; rintro r v3 ⟨z2, rfl, hz2, hb⟩; have hb3 := Lib.hid hb; clear hb
  go_wp2_with fail
  refine hK.out _ _ ?_ (fun hHeld => ?_)
  · (try dsimp only); exact hHeld.below hb3.out
  clear hK K
  have R3 := Lib.hid (obj_below R2.out hb3.out (heap_lt R2.out))
  have B3 := Lib.hid (B2.out.trans (hb3.out.mono B2.out.size))
  have Z2 := Lib.hid hz2
  clear hz2
  try simp only [pu, pa, pz, ps]
  refine wpAnyH_ready (rs := [6]) (by kernel_rfl) (by simp) ?_
  refine AllReadyH.cons (o := ⟨_, _, _, _, _, _⟩) rfl (fun K hK => ?_) AllReadyH.nil
  go_simp
  refine (HTa.out _ _ (HVx.out _ B3.out)).mono ?_; rintro r v4 ⟨z3, rfl, hz3, hb⟩; have hb4 := Lib.hid hb; clear hb
  go_wp2_with fail
  refine hK.out _ _ ?_ (fun hHeld => ?_)
  · (try dsimp only); exact hHeld.below hb4.out
  clear hK K
  have R4 := Lib.hid (obj_below R3.out hb4.out (heap_lt R3.out))
  have B4 := Lib.hid (B3.out.trans (hb4.out.mono B3.out.size))
  have Z3 := Lib.hid hz3
  have Z2 := Lib.hid (Z2.out.below hb4.out)
  clear hz3
  try simp only [pu, pa, pz, ps]
  refine wpAnyH_ready (rs := [8]) (by kernel_rfl) (by simp) ?_
  refine AllReadyH.cons (o := ⟨_, _, _, _, _, _⟩) rfl (fun K hK => ?_) AllReadyH.nil
  go_simp
  refine (HTb.out _ _ (HVy.out _ B4.out)).mono ?_; rintro r v5 ⟨z4, rfl, hz4, hb⟩; have hb5 := Lib.hid hb; clear hb
  go_wp2_with fail
  refine hK.out _ _ ?_ (fun hHeld => ?_)
  · (try dsimp only); exact hHeld.below hb5.out
  clear hK K
  have R5 := Lib.hid (obj_below R4.out hb5.out (heap_lt R4.out))
  have B5 := Lib.hid (B4.out.trans (hb5.out.mono B4.out.size))
  have Z4 := Lib.hid hz4
  have Z2 := Lib.hid (Z2.out.below hb5.out)
  have Z3 := Lib.hid (Z3.out.below hb5.out)
  clear hz4
  try simp only [pu, pa, pz, ps]
  refine wpAnyH_ready (rs := [9]) (by kernel_rfl) (by simp) ?_
  refine AllReadyH.cons (o := ⟨_, _, _, _, _, _⟩) rfl (fun K hK => ?_) AllReadyH.nil
  go_simp
  refine (ref43_both 14 _ _ _ _ _ (by unfold I64; omega) Z3.out Z4.out).mono ?_; rintro r v6 ⟨z5, rfl, hz5, hb⟩; have hb6 := Lib.hid hb; clear hb
  go_wp2_with fail
  refine hK.out _ _ ?_ (fun hHeld => ?_)
  · (try dsimp only); exact hHeld.below hb6.out
  clear hK K
  have R6 := Lib.hid (obj_below R5.out hb6.out (heap_lt R5.out))
  have B6 := Lib.hid (B5.out.trans (hb6.out.mono B5.out.size))
  have Z5 := Lib.hid hz5
  have Z2 := Lib.hid (Z2.out.below hb6.out)
  clear hz5
  try simp only [pu, pa, pz, ps]
  refine wpAnyH_ready (rs := [10]) (by kernel_rfl) (by simp) ?_
  refine AllReadyH.cons (o := ⟨_, _, _, _, _, _⟩) rfl (fun K hK => ?_) AllReadyH.nil
  go_simp
  refine (ref43_both 15 _ _ _ _ _ (by unfold I64; omega) Z2.out Z5.out).mono ?_; rintro r v7 ⟨z6, rfl, hz6, hb⟩; have hb7 := Lib.hid hb; clear hb
  go_wp2_with fail
  refine hK.out _ _ ?_ (fun hHeld => ?_)
  · (try dsimp only); exact hHeld.below hb7.out
  clear hK K
  have R7 := Lib.hid (obj_below R6.out hb7.out (heap_lt R6.out))
  have B7 := Lib.hid (B6.out.trans (hb7.out.mono B6.out.size))
  have Z6 := Lib.hid hz6
  clear hz6
  obtain ⟨a, k, c, hzf⟩ := ex_form Z6.out
  rw [hzf] at Z6
  rw [hzf]
  clear hzf
  obtain ⟨f0, f1, f2, f3, f4⟩ := frozen5 R7.out
  obtain ⟨g0, g1, g2, g3, g4⟩ := boxed_ex5 R7.out
  have yr := heap_lt R7.out
  try simp only [pu, pa, pz, ps]
  refine wpAnyH_ready (rs := [11]) (by kernel_rfl) (by simp) ?_
  refine AllReadyH.cons (o := ⟨_, _, _, _, _, _⟩) rfl (fun K hK => ?_) AllReadyH.nil
  go_simp
  refine hK.out _ _ ?_ (fun hHeld => ?_)
  · (try dsimp only); exact hHeld.sets HN.out.1 HN.out.2.1 HN.out.2.2 _ _ _ _ _
  clear hK K
  try simp only [pu, pa, pz, ps]
  refine wpAnyH_done (by kernel_rfl) ?_ _
  clear hHeld
  go_wp2_with fail
  obtain ⟨y, hy⟩ : ∃ y, binE 15 (binE 14 Aa Ab) (binE 14 Ta Tb) = y := ⟨_, rfl⟩
  rw [hy] at Z6 HZ ⊢
  obtain ⟨w5, hW5, oo, HE, HB3⟩ := store_ex R7.out Z6.out HZ.out B7.out (by omega)
  rw [← hW5]
  obtain ⟨e0, e1, e2, e3, e4⟩ := boxed_ex5 oo
  refine bodyPost_ret (by simp [results, Tryd.results49, go_sem, e0, e1, e2, e3, e4]; try rfl) rfl ?_
  exact ⟨_, rfl, HE, HB3⟩
theorem ref43_forms (s : Sc) (e : Ex) : truE s e = true → ∀ w v, ExV w v e →
    (Calls Tryd.prog 18 #[v] w fun r w' => ∃ z, r = .returned z ∧ ExV w' z (asE e).1 ∧ Below w.heap.size w w') ∧ (Calls Tryd.prog 49 #[v] w fun r w' => ∃ z, r = .returned z ∧ ExV w' z (asE e).2 ∧ Below w.heap.size w w') := by
  induction e using Ex.ind with
  | h op t n m l ih =>
    intro ht w v hv
    obtain ⟨⟨z1, _⟩, z2, _⟩ := as_noZ _ ht
    rcases tru_cases ht with ⟨h1, h0⟩ | ⟨x, hx, hxt⟩ | ⟨m', x, y, hx, hxt, hyt, hj⟩
    · have hop := leaf_op h1
      have h6 : (⟨op, t, n, m, l⟩ : Ex).op ≠ 6 := by simp only at hop ⊢; omega
      have h7 : (⟨op, t, n, m, l⟩ : Ex).op ≠ 7 := by simp only at hop ⊢; omega
      rw [asE_mk, if_neg h6, if_neg h7]
      refine ⟨ref43_As_leaf _ h6 h7 w v hv, ?_⟩
      by_cases ho : op = 1
      · rw [if_pos ho]
        exact ref43_Turned_const _ ho (leaf_num h1 ho) w v hv
      · rw [if_neg ho]
        exact ref43_Turned_leaf _ ho h6 h7 w v hv
    · have e1 := ih x (by injection hx with _ _ _ _ hl; rw [hl]; simp) hxt
      rw [hx] at hv z1 z2 ⊢
      rw [as_un] at z1 z2 ⊢
      exact ⟨ref43_As_un x _ z1 (fun w v h => (e1 w v h).2) w v hv, ref43_Turned_un x _ z2 (fun w v h => (e1 w v h).1) w v hv⟩
    · have e1 := ih x (by injection hx with _ _ _ _ hl; rw [hl]; simp) hxt
      have e2 := ih y (by injection hx with _ _ _ _ hl; rw [hl]; simp) hyt
      have xa := fun w v h => (e1 w v h).1
      have xt := fun w v h => (e1 w v h).2
      have ya := fun w v h => (e2 w v h).1
      have yt := fun w v h => (e2 w v h).2
      rw [hx] at hv z1 z2 ⊢
      rw [as_bin] at z1 z2 ⊢
      by_cases c1 : m' = 14 ∨ m' = 15
      · rw [if_pos c1] at z1 z2 ⊢
        rcases c1 with rfl | rfl
        · exact ⟨ref43_As_14 x y _ _ z1 xa ya w v hv, ref43_Turned_14 x y _ _ z2 xt yt w v hv⟩
        · exact ⟨ref43_As_15 x y _ _ z1 xa ya w v hv, ref43_Turned_15 x y _ _ z2 xt yt w v hv⟩
      · rw [if_neg c1] at z1 z2 ⊢
        by_cases c2 : m' = 20
        · rw [if_pos c2] at z1 z2 ⊢
          subst c2
          exact ⟨ref43_As_20 x y _ _ _ _ z1 xa ya xt yt w v hv, ref43_Turned_20 x y _ _ _ _ z2 xa ya xt yt w v hv⟩
        · rw [if_neg c2] at z1 z2 ⊢
          have q14 : (m' == 14) = false := beq_eq_false_iff_ne.2 fun h => c1 (Or.inl h)
          have q15 : (m' == 15) = false := beq_eq_false_iff_ne.2 fun h => c1 (Or.inr h)
          have q20 : (m' == 20) = false := beq_eq_false_iff_ne.2 c2
          exact ⟨ref43_As_ne x y _ _ _ _ m' q14 q15 q20 z1 xa ya xt yt w v hv, ref43_Turned_ne x y _ _ _ _ m' q14 q15 q20 z2 xa ya xt yt w v hv⟩
end Go.Proofs.YtknbomikiakpmaaDoor