/- Merged texts: NnW, NnX, NnY. -/
import Derived.Test.YtknbomikiakpmaaDoorMg0
import Derived.Test.YtknbomikiakpmaaDoorMg1
import Derived.BigRegion
import Derived.BigQuiet
import Derived.Laws.EntriesVeiled
/- Layer 43: the program's normal form: the closure. -/
namespace Go.Proofs.YtknbomikiakpmaaDoor
open Go.RowKit
open NN
set_option linter.unusedSimpArgs false
set_option linter.unusedVariables false
def FnAt (g : Nat) (ty : TypeId) (w : World) : Prop := w.heap[g]? = some (.cells #[.func (.func 45) #[] #[.pointer (some ⟨g, 0, none⟩)]] ty)
theorem FnAt.below {g B : Nat} {ty : TypeId} {w w' : World} (h : FnAt g ty w) (hb : Below w.heap.size w w') : FnAt g ty w' := obj_below h hb (heap_lt h)
structure Kept (p q r : Nat) (E A B : Obj) (w w' : World) : Prop where
  o : ThreeAt p q r E A B w'
  b : Below w.heap.size w w'
theorem Kept.below {p q r : Nat} {E A B : Obj} {w v v' : World} (h : Kept p q r E A B w v) (hb : Below v.heap.size v v') : Kept p q r E A B w v' :=
  ⟨h.o.below hb, h.b.trans (hb.mono h.b.size)⟩
theorem Kept.sets {p q r g : Nat} {E A B : Obj} {w v : World} (h : Kept p q r E A B w v) (h1 : g ≠ p) (h2 : g ≠ q) (h3 : g ≠ r) (hg : w.heap.size ≤ g) (a b c d e : Value) : Kept p q r E A B w (((((v.setCell ⟨g, 0, none⟩ a).setCell ⟨g, 1, none⟩ b).setCell ⟨g, 2, none⟩ c).setCell ⟨g, 3, none⟩ d).setCell ⟨g, 4, none⟩ e) :=
  ⟨h.o.sets h1 h2 h3 .., below_sets h.b hg ..⟩
set_option maxRecDepth 100000 in
set_option maxHeartbeats 4000000 in
theorem norm_leaf (x : Ex) (t : Bool) (g : Nat) (h1 : notB x = false) (h2 : bothB x = false) (h3 : x.op = 1 → I64 (1 - x.n)) (hz : noZ (litE x t) = true) (w : World) (v : Value) (hv : ExV w v x) :
    Calls Tryd.prog 45 #[v, .bool t, .pointer (some ⟨g, 0, none⟩)] w fun r w' => ∃ z, r = .returned z ∧ ExV w' z (litE x t) ∧ Below w.heap.size w w' := by
  have HNot := Lib.hid (fun W (hb : Below w.heap.size w W) => nnf_not _ W v (hv.below hb))
  have HBoth := Lib.hid (fun W (hb : Below w.heap.size w W) => nnf_both _ W v (hv.below hb))
  have HLit := Lib.hid (fun W (hb : Below w.heap.size w W) => nnf_literal x t W v (hv.below hb) h3)
  rw [h1] at HNot
  rw [h2] at HBoth
  have HZ := Lib.hid hz
  obtain ⟨a, k, c, rfl⟩ := ex_form hv
  clear hz h1 h2 h3 hv
  obtain ⟨xo, xt, xn, xm, xl⟩ := x
  simp only at HNot HBoth HLit ⊢
  obtain ⟨y, hy⟩ : ∃ y, litE ⟨xo, xt, xn, xm, xl⟩ t = y := ⟨_, rfl⟩
  rw [hy] at HLit HZ ⊢
  clear hy
  obtain ⟨W0, hW0⟩ : ∃ W0, W0 = (w.alloc (.cells #[.int .i64 xo, .int .i64 xt, .int .i64 xn, .int .i64 xm, .slice a k c] 37)).alloc (.cells #[.int .i64 0, .int .i64 0, .int .i64 0, .int .i64 0, .slice none 0 0] 37) := ⟨_, rfl⟩
  have oE : W0.heap[w.heap.size]? = some (.cells #[.int .i64 xo, .int .i64 xt, .int .i64 xn, .int .i64 xm, .slice a k c] 37) := by rw [hW0]; exact (get_past (by simp)).trans (get_last rfl)
  have oR : W0.heap[w.heap.size + 1]? = some (.cells #[.int .i64 0, .int .i64 0, .int .i64 0, .int .i64 0, .slice none 0 0] 37) := by rw [hW0]; exact get_last (by simp)
  have hbw : Below w.heap.size w W0 := by rw [hW0]; exact by (repeat' (first | (with_reducible exact Below.refl _ _) | (with_reducible assumption) | (with_reducible refine below_drewN ?_ _) | (with_reducible refine Below.alloc ?_ ?_ _) | (with_reducible refine Below.drew ?_) | (with_reducible refine Below.setCell ?_ ?_ _) | go_size))
  have HW0 := Lib.hid hW0
  have HOE := Lib.hid oE
  have HOR := Lib.hid oR
  have HB0 := Lib.hid hbw
  clear hW0 oE oR hbw
  go_enter Tryd.func45, Tryd.ntmps45
  go_wp2_with fail
  refine (HNot.out _ (by (repeat' (first | (with_reducible exact Below.refl _ _) | (with_reducible assumption) | (with_reducible refine below_drewN ?_ _) | (with_reducible refine Below.alloc ?_ ?_ _) | (with_reducible refine Below.drew ?_) | (with_reducible refine Below.setCell ?_ ?_ _) | go_size)))).mono ?_; rintro r w1 ⟨rfl, hb1⟩
  rw [← HW0.out] at hb1
  have E1 := Lib.hid (obj_below HOE.out hb1 (heap_lt HOE.out))
  have R1 := Lib.hid (obj_below HOR.out hb1 (heap_lt HOR.out))
  have B1 := Lib.hid (HB0.out.trans (hb1.mono HB0.out.size))
  obtain ⟨e0, e1, e2, e3, e4⟩ := boxed_ex5 E1.out
  have ye := heap_lt E1.out
  clear hb1
  go_wp2_with fail
  refine (HBoth.out _ B1.out).mono ?_; rintro r w2 ⟨rfl, hb2⟩
  have E2 := Lib.hid (obj_below E1.out hb2 (heap_lt E1.out))
  have R2 := Lib.hid (obj_below R1.out hb2 (heap_lt R1.out))
  have B2 := Lib.hid (B1.out.trans (hb2.mono B1.out.size))
  clear e0 e1 e2 e3 e4 ye hb2
  obtain ⟨e0, e1, e2, e3, e4⟩ := boxed_ex5 E2.out
  have ye := heap_lt E2.out
  go_wp2_with fail
  refine (HLit.out _ B2.out).mono ?_; rintro r w3 ⟨z, rfl, hz3, hb3⟩
  have R3 := Lib.hid (obj_below R2.out hb3 (heap_lt R2.out))
  have B3 := Lib.hid (B2.out.trans (hb3.mono B2.out.size))
  have Z0 := Lib.hid hz3
  obtain ⟨a', k', c', rfl⟩ := ex_form hz3
  clear e0 e1 e2 e3 e4 ye hb3 hz3
  obtain ⟨f0, f1, f2, f3, f4⟩ := frozen5 R3.out
  obtain ⟨g0, g1, g2, g3, g4⟩ := boxed_ex5 R3.out
  have yr := heap_lt R3.out
  go_wp2_with fail
  obtain ⟨w5, hW5, oo, HE, HB3⟩ := store_ex R3.out Z0.out HZ.out B3.out (by omega)
  rw [← hW5]
  obtain ⟨e0, e1, e2, e3, e4⟩ := boxed_ex5 oo
  refine bodyPost_ret (by simp [results, Tryd.results45, go_sem, e0, e1, e2, e3, e4]; try rfl) rfl ?_
  exact ⟨_, rfl, HE, HB3⟩
set_option maxRecDepth 100000 in
set_option maxHeartbeats 4000000 in
theorem norm_un (x y : Ex) (t : Bool) (g : Nat) (ty : TypeId) (hz : noZ y = true) (HX : ∀ w v, ExV w v x → FnAt g ty w → Calls Tryd.prog 45 #[v, .bool (!t), .pointer (some ⟨g, 0, none⟩)] w fun r w' => ∃ z, r = .returned z ∧ ExV w' z y ∧ Below w.heap.size w w') (w : World) (v : Value) (hv : ExV w v ⟨6, 0, 0, 17, [x]⟩) (hF : FnAt g ty w) :
    Calls Tryd.prog 45 #[v, .bool t, .pointer (some ⟨g, 0, none⟩)] w fun r w' => ∃ z, r = .returned z ∧ ExV w' z y ∧ Below w.heap.size w w' := by
  have HNot := Lib.hid (fun W (hb : Below w.heap.size w W) => nnf_not _ W v (hv.below hb))
  rw [notB_un] at HNot
  have HX := Lib.hid HX
  have HZ := Lib.hid hz
  clear hz
  obtain ⟨sl, rfl, hr, hrow⟩ := hv
  simp only at hrow
  obtain ⟨sa, sc, rfl⟩ := row_get hrow
  obtain ⟨bx, ox, ss, sn, sc2, rfl, hbx, q1, q2, d0, d1, d2, d3, d4, dV⟩ := ex_at hrow (k := 0) (x := x) rfl
  have hl2 : ([x] : List Ex).length = 1 := rfl
  rw [hl2]
  obtain ⟨W0, hW0⟩ : ∃ W0, W0 = (w.alloc (.cells #[.int .i64 6, .int .i64 0, .int .i64 0, .int .i64 17, .slice (some ⟨bx, ox, none⟩) 1 sc] 37)).alloc (.cells #[.int .i64 0, .int .i64 0, .int .i64 0, .int .i64 0, .slice none 0 0] 37) := ⟨_, rfl⟩
  have oE : W0.heap[w.heap.size]? = some (.cells #[.int .i64 6, .int .i64 0, .int .i64 0, .int .i64 17, .slice (some ⟨bx, ox, none⟩) 1 sc] 37) := by rw [hW0]; exact (get_past (by simp)).trans (get_last rfl)
  have oR : W0.heap[w.heap.size + 1]? = some (.cells #[.int .i64 0, .int .i64 0, .int .i64 0, .int .i64 0, .slice none 0 0] 37) := by rw [hW0]; exact get_last (by simp)
  have hbw : Below w.heap.size w W0 := by rw [hW0]; exact by (repeat' (first | (with_reducible exact Below.refl _ _) | (with_reducible assumption) | (with_reducible refine below_drewN ?_ _) | (with_reducible refine Below.alloc ?_ ?_ _) | (with_reducible refine Below.drew ?_) | (with_reducible refine Below.setCell ?_ ?_ _) | go_size))
  have HW0 := Lib.hid hW0
  have HVx := Lib.hid (fun W (hb : Below w.heap.size w W) => dV.below hb)
  obtain ⟨xo, xt, xn, xm, xl⟩ := x
  replace d0 : w.cell? ⟨bx, ox, none⟩ = some (.int .i64 xo) := by simpa using d0
  replace d1 : w.cell? ⟨bx, ox + 1, none⟩ = some (.int .i64 xt) := by simpa using d1
  replace d2 : w.cell? ⟨bx, ox + 2, none⟩ = some (.int .i64 xn) := by simpa using d2
  replace d3 : w.cell? ⟨bx, ox + 3, none⟩ = some (.int .i64 xm) := by simpa using d3
  replace d4 : w.cell? ⟨bx, ox + 4, none⟩ = some (.slice ss sn sc2) := by simpa using d4
  have D := Lib.hid (And.intro d0 (And.intro d1 (And.intro d2 (And.intro d3 d4))))
  have HBX := Lib.hid hbx
  have HF := Lib.hid hF
  have HOE := Lib.hid oE
  have HOR := Lib.hid oR
  have HB0 := Lib.hid hbw
  have mixed : Tryd.prog.follows .mixedOrders = true := by kernel_rfl
  clear hW0 oE oR hbw dV  hr hrow q1 q2 hF d0 d1 d2 d3 d4 hbx
  rw [hl2] at HNot
  clear hl2
  go_enter Tryd.func45, Tryd.ntmps45
  go_wp2_with fail
  refine (HNot.out _ (by (repeat' (first | (with_reducible exact Below.refl _ _) | (with_reducible assumption) | (with_reducible refine below_drewN ?_ _) | (with_reducible refine Below.alloc ?_ ?_ _) | (with_reducible refine Below.drew ?_) | (with_reducible refine Below.setCell ?_ ?_ _) | go_size)))).mono ?_; rintro r w1 ⟨rfl, hb1⟩
  rw [← HW0.out] at hb1
  have E1 := Lib.hid (obj_below HOE.out hb1 (heap_lt HOE.out))
  have R1 := Lib.hid (obj_below HOR.out hb1 (heap_lt HOR.out))
  have B1 := Lib.hid (HB0.out.trans (hb1.mono HB0.out.size))
  clear hb1
  go_wp2_with fail
  have R2 := Lib.hid (show w1.drew.heap[w.heap.size + 1]? = _ from R1.out)
  have B2 := Lib.hid (show Below w.heap.size w w1.drew from B1.out.drew)
  have hT0 : Kept w.heap.size w.heap.size w.heap.size _ _ _ w w1.drew := ⟨⟨E1.out, E1.out, E1.out⟩, B2.out⟩
  refine wp_region_held_drew (S := (fun w' => Kept w.heap.size w.heap.size w.heap.size (.cells #[.int .i64 6, .int .i64 0, .int .i64 0, .int .i64 17, .slice (some ⟨bx, ox, none⟩) 1 sc] 37) (.cells #[.int .i64 6, .int .i64 0, .int .i64 0, .int .i64 17, .slice (some ⟨bx, ox, none⟩) 1 sc] 37) (.cells #[.int .i64 6, .int .i64 0, .int .i64 0, .int .i64 17, .slice (some ⟨bx, ox, none⟩) 1 sc] 37) w w')) (by kernel_rfl) ?_ (fun hHeld => ?_)
  · (try dsimp only); exact hT0
  refine tk 0 (v := ?_) (hy := ?_) (h := ?_); rotate_left
  · intro wt hSw; (try dsimp only at hSw); have e4 := obj_cell hSw.o.e (i := 4) rfl; have ye := heap_lt hSw.o.e; have hbx := HBX.out; have cF := obj_cell (obj_below HF.out hSw.b (heap_lt HF.out)) (i := 0) rfl; have yF := Nat.lt_of_lt_of_le (heap_lt HF.out) hSw.b.size; have yb := Nat.lt_of_lt_of_le hbx hSw.b.size; obtain ⟨d0, d1, d2, d3, d4⟩ := D.out; have c0 : wt.cell? ⟨bx, ox, none⟩ = some (.int .i64 xo) := (hSw.b.cell (p := ⟨bx, ox, none⟩) hbx).trans d0; have c1 : wt.cell? ⟨bx, ox + 1, none⟩ = some (.int .i64 xt) := (hSw.b.cell (p := ⟨bx, ox + 1, none⟩) hbx).trans d1; have c2 : wt.cell? ⟨bx, ox + 2, none⟩ = some (.int .i64 xn) := (hSw.b.cell (p := ⟨bx, ox + 2, none⟩) hbx).trans d2; have c3 : wt.cell? ⟨bx, ox + 3, none⟩ = some (.int .i64 xm) := (hSw.b.cell (p := ⟨bx, ox + 3, none⟩) hbx).trans d3; have c4 : wt.cell? ⟨bx, ox + 4, none⟩ = some (.slice ss sn sc2) := (hSw.b.cell (p := ⟨bx, ox + 4, none⟩) hbx).trans d4; go_simp <;> with_reducible rfl
  try simp only [pu, pa, pz, ps]
  refine tk 1 (v := ?_) (hy := ?_) (h := ?_); rotate_left
  · intro _ _; go_simp <;> with_reducible rfl
  try simp only [pu, pa, pz, ps]
  refine tk 2 (v := ?_) (hy := ?_) (h := ?_); rotate_left
  · intro wt hSw; (try dsimp only at hSw); have e4 := obj_cell hSw.o.e (i := 4) rfl; have ye := heap_lt hSw.o.e; have hbx := HBX.out; have cF := obj_cell (obj_below HF.out hSw.b (heap_lt HF.out)) (i := 0) rfl; have yF := Nat.lt_of_lt_of_le (heap_lt HF.out) hSw.b.size; have yb := Nat.lt_of_lt_of_le hbx hSw.b.size; obtain ⟨d0, d1, d2, d3, d4⟩ := D.out; have c0 : wt.cell? ⟨bx, ox, none⟩ = some (.int .i64 xo) := (hSw.b.cell (p := ⟨bx, ox, none⟩) hbx).trans d0; have c1 : wt.cell? ⟨bx, ox + 1, none⟩ = some (.int .i64 xt) := (hSw.b.cell (p := ⟨bx, ox + 1, none⟩) hbx).trans d1; have c2 : wt.cell? ⟨bx, ox + 2, none⟩ = some (.int .i64 xn) := (hSw.b.cell (p := ⟨bx, ox + 2, none⟩) hbx).trans d2; have c3 : wt.cell? ⟨bx, ox + 3, none⟩ = some (.int .i64 xm) := (hSw.b.cell (p := ⟨bx, ox + 3, none⟩) hbx).trans d3; have c4 : wt.cell? ⟨bx, ox + 4, none⟩ = some (.slice ss sn sc2) := (hSw.b.cell (p := ⟨bx, ox + 4, none⟩) hbx).trans d4; go_simp <;> with_reducible rfl
  try simp only [pu, pa, pz, ps]
  refine tk 3 (v := ?_) (hy := ?_) (h := ?_); rotate_left
  · intro _ _; go_simp <;> with_reducible rfl
  try simp only [pu, pa, pz, ps]
  refine tk 4 (v := ?_) (hy := ?_) (h := ?_); rotate_left
  · intro wt hSw; (try dsimp only at hSw); have e4 := obj_cell hSw.o.e (i := 4) rfl; have ye := heap_lt hSw.o.e; have hbx := HBX.out; have cF := obj_cell (obj_below HF.out hSw.b (heap_lt HF.out)) (i := 0) rfl; have yF := Nat.lt_of_lt_of_le (heap_lt HF.out) hSw.b.size; have yb := Nat.lt_of_lt_of_le hbx hSw.b.size; obtain ⟨d0, d1, d2, d3, d4⟩ := D.out; have c0 : wt.cell? ⟨bx, ox, none⟩ = some (.int .i64 xo) := (hSw.b.cell (p := ⟨bx, ox, none⟩) hbx).trans d0; have c1 : wt.cell? ⟨bx, ox + 1, none⟩ = some (.int .i64 xt) := (hSw.b.cell (p := ⟨bx, ox + 1, none⟩) hbx).trans d1; have c2 : wt.cell? ⟨bx, ox + 2, none⟩ = some (.int .i64 xn) := (hSw.b.cell (p := ⟨bx, ox + 2, none⟩) hbx).trans d2; have c3 : wt.cell? ⟨bx, ox + 3, none⟩ = some (.int .i64 xm) := (hSw.b.cell (p := ⟨bx, ox + 3, none⟩) hbx).trans d3; have c4 : wt.cell? ⟨bx, ox + 4, none⟩ = some (.slice ss sn sc2) := (hSw.b.cell (p := ⟨bx, ox + 4, none⟩) hbx).trans d4; go_simp <;> with_reducible rfl
  try simp only [pu, pa, pz, ps]
  refine tk 5 (v := ?_) (hy := ?_) (h := ?_); rotate_left
  · intro _ _; go_simp <;> with_reducible rfl
  try simp only [pu, pa, pz, ps]
  refine tk 6 (v := ?_) (hy := ?_) (h := ?_); rotate_left
  · intro _ _; go_simp <;> with_reducible rfl
  try simp only [pu, pa, pz, ps]
  refine wpAnyH_ready (rs := [7]) (by kernel_rfl) (by simp) ?_
  refine AllReadyH.cons (o := ⟨_, _, _, _, _, _⟩) rfl (fun K hK => ?_) AllReadyH.nil
  go_simp
  refine (HX.out _ _ (HVx.out _ B2.out) (obj_below HF.out B2.out (heap_lt HF.out))).mono ?_; rintro r v1 ⟨z0, rfl, hz0, hb⟩; have hb1 := Lib.hid hb; clear hb
  go_wp2_with fail
  refine hK.out _ _ ?_ (fun hHeld => ?_)
  · (try dsimp only); exact hHeld.below hb1.out
  clear hK K
  have R3 := Lib.hid (obj_below R2.out hb1.out (heap_lt R2.out))
  have B3 := Lib.hid (B2.out.trans (hb1.out.mono B2.out.size))
  have Z0 := Lib.hid hz0
  clear hz0
  obtain ⟨a, k, c, hzf⟩ := ex_form Z0.out
  rw [hzf] at Z0
  rw [hzf]
  clear hzf
  obtain ⟨f0, f1, f2, f3, f4⟩ := frozen5 R3.out
  obtain ⟨g0, g1, g2, g3, g4⟩ := boxed_ex5 R3.out
  have yr := heap_lt R3.out
  try simp only [pu, pa, pz, ps]
  refine wpAnyH_ready (rs := [8]) (by kernel_rfl) (by simp) ?_
  refine AllReadyH.cons (o := ⟨_, _, _, _, _, _⟩) rfl (fun K hK => ?_) AllReadyH.nil
  go_simp
  refine hK.out _ _ ?_ (fun hHeld => ?_)
  · (try dsimp only); exact hHeld.sets (by omega) (by omega) (by omega) (by omega) _ _ _ _ _
  clear hK K
  try simp only [pu, pa, pz, ps]
  refine wpAnyH_done (by kernel_rfl) ?_ _
  clear hHeld
  go_wp2_with fail
  obtain ⟨w5, hW5, oo, HE, HB3⟩ := store_ex R3.out Z0.out HZ.out B3.out (by omega)
  rw [← hW5]
  obtain ⟨e0, e1, e2, e3, e4⟩ := boxed_ex5 oo
  refine bodyPost_ret (by simp [results, Tryd.results45, go_sem, e0, e1, e2, e3, e4]; try rfl) rfl ?_
  exact ⟨_, rfl, HE, HB3⟩
set_option maxRecDepth 100000 in
set_option maxHeartbeats 8000000 in
theorem norm_jf (x y Aa Bb : Ex) (m : Int) (hj : jun m = true) (g : Nat) (ty : TypeId) (hz : noZ (binE (m) Aa Bb) = true) (HAa : ∀ w v, ExV w v x → FnAt g ty w → Calls Tryd.prog 45 #[v, .bool false, .pointer (some ⟨g, 0, none⟩)] w fun r w' => ∃ z, r = .returned z ∧ ExV w' z Aa ∧ Below w.heap.size w w') (HBb : ∀ w v, ExV w v y → FnAt g ty w → Calls Tryd.prog 45 #[v, .bool false, .pointer (some ⟨g, 0, none⟩)] w fun r w' => ∃ z, r = .returned z ∧ ExV w' z Bb ∧ Below w.heap.size w w') (w : World) (v : Value) (hv : ExV w v ⟨7, 0, 0, m, [x, y]⟩) (hF : FnAt g ty w) :
    Calls Tryd.prog 45 #[v, .bool false, .pointer (some ⟨g, 0, none⟩)] w fun r w' => ∃ z, r = .returned z ∧ ExV w' z (binE (m) Aa Bb) ∧ Below w.heap.size w w' := by
  have hmI : I64 m := by obtain ⟨_, _, hi, _⟩ := hv; exact hi.2.2.2
  have HNot := Lib.hid (fun W (hb : Below w.heap.size w W) => nnf_not _ W v (hv.below hb))
  have HBoth := Lib.hid (fun W (hb : Below w.heap.size w W) => nnf_both _ W v (hv.below hb))
  have HJ := Lib.hid (fun W => nnf_junction m W)
  rw [notB_bin] at HNot
  rw [bothB_bin] at HBoth
  rw [hj] at HJ
  have HM := Lib.hid hmI
  have HZ := Lib.hid hz
  clear hj hmI hz
  have HAa := Lib.hid HAa
  have HBb := Lib.hid HBb
  obtain ⟨sl, rfl, hr, hrow⟩ := hv
  simp only at hrow
  obtain ⟨sa, sc, rfl⟩ := row_get hrow
  obtain ⟨bx, ox, ss, sn, sc2, rfl, hbx, q1, q2, d0, d1, d2, d3, d4, dV⟩ := ex_at hrow (k := 0) (x := x) rfl
  obtain ⟨_, _, ss', sn', sc2', hh, _, _, _, d5, d6, d7, d8, d9, dV'⟩ := ex_at hrow (k := 1) (x := y) rfl
  obtain ⟨rfl, rfl⟩ : bx = _ ∧ ox = _ := by injection hh with hh; injection hh with h1 h2; exact ⟨h1, h2⟩
  have hl2 : ([x, y] : List Ex).length = 2 := rfl
  rw [hl2]
  clear hh
  obtain ⟨W0, hW0⟩ : ∃ W0, W0 = (w.alloc (.cells #[.int .i64 7, .int .i64 0, .int .i64 0, .int .i64 m, .slice (some ⟨bx, ox, none⟩) 2 sc] 37)).alloc (.cells #[.int .i64 0, .int .i64 0, .int .i64 0, .int .i64 0, .slice none 0 0] 37) := ⟨_, rfl⟩
  have oE : W0.heap[w.heap.size]? = some (.cells #[.int .i64 7, .int .i64 0, .int .i64 0, .int .i64 m, .slice (some ⟨bx, ox, none⟩) 2 sc] 37) := by rw [hW0]; exact (get_past (by simp)).trans (get_last rfl)
  have oR : W0.heap[w.heap.size + 1]? = some (.cells #[.int .i64 0, .int .i64 0, .int .i64 0, .int .i64 0, .slice none 0 0] 37) := by rw [hW0]; exact get_last (by simp)
  have hbw : Below w.heap.size w W0 := by rw [hW0]; exact by (repeat' (first | (with_reducible exact Below.refl _ _) | (with_reducible assumption) | (with_reducible refine below_drewN ?_ _) | (with_reducible refine Below.alloc ?_ ?_ _) | (with_reducible refine Below.drew ?_) | (with_reducible refine Below.setCell ?_ ?_ _) | go_size))
  have HW0 := Lib.hid hW0
  have HVx := Lib.hid (fun W (hb : Below w.heap.size w W) => dV.below hb)
  have HVy := Lib.hid (fun W (hb : Below w.heap.size w W) => dV'.below hb)
  obtain ⟨yo, yt, yn, ym, yl⟩ := y
  obtain ⟨xo, xt, xn, xm, xl⟩ := x
  replace d0 : w.cell? ⟨bx, ox, none⟩ = some (.int .i64 xo) := by simpa using d0
  replace d1 : w.cell? ⟨bx, ox + 1, none⟩ = some (.int .i64 xt) := by simpa using d1
  replace d2 : w.cell? ⟨bx, ox + 2, none⟩ = some (.int .i64 xn) := by simpa using d2
  replace d3 : w.cell? ⟨bx, ox + 3, none⟩ = some (.int .i64 xm) := by simpa using d3
  replace d4 : w.cell? ⟨bx, ox + 4, none⟩ = some (.slice ss sn sc2) := by simpa using d4
  replace d5 : w.cell? ⟨bx, ox + 5, none⟩ = some (.int .i64 yo) := by simpa using d5
  replace d6 : w.cell? ⟨bx, ox + 5 + 1, none⟩ = some (.int .i64 yt) := by simpa using d6
  replace d7 : w.cell? ⟨bx, ox + 5 + 2, none⟩ = some (.int .i64 yn) := by simpa using d7
  replace d8 : w.cell? ⟨bx, ox + 5 + 3, none⟩ = some (.int .i64 ym) := by simpa using d8
  replace d9 : w.cell? ⟨bx, ox + 5 + 4, none⟩ = some (.slice ss' sn' sc2') := by simpa using d9
  have D := Lib.hid (And.intro d0 (And.intro d1 (And.intro d2 (And.intro d3 (And.intro d4 (And.intro d5 (And.intro d6 (And.intro d7 (And.intro d8 d9)))))))))
  have HBX := Lib.hid hbx
  have HF := Lib.hid hF
  have HOE := Lib.hid oE
  have HOR := Lib.hid oR
  have HB0 := Lib.hid hbw
  have mixed : Tryd.prog.follows .mixedOrders = true := by kernel_rfl
  clear hW0 oE oR hbw dV dV' hr hrow q1 q2 hF d0 d1 d2 d3 d4 d5 d6 d7 d8 d9 hbx
  rw [hl2] at HNot HBoth
  clear hl2
  go_enter Tryd.func45, Tryd.ntmps45
  go_wp2_with fail
  refine (HNot.out _ (by (repeat' (first | (with_reducible exact Below.refl _ _) | (with_reducible assumption) | (with_reducible refine below_drewN ?_ _) | (with_reducible refine Below.alloc ?_ ?_ _) | (with_reducible refine Below.drew ?_) | (with_reducible refine Below.setCell ?_ ?_ _) | go_size)))).mono ?_; rintro r w1 ⟨rfl, hb1⟩
  rw [← HW0.out] at hb1
  have E1 := Lib.hid (obj_below HOE.out hb1 (heap_lt HOE.out))
  have R1 := Lib.hid (obj_below HOR.out hb1 (heap_lt HOR.out))
  have B1 := Lib.hid (HB0.out.trans (hb1.mono HB0.out.size))
  clear hb1
  obtain ⟨e0, e1, e2, e3, e4⟩ := boxed_ex5 E1.out
  have ye := heap_lt E1.out
  go_wp2_with fail
  refine (HBoth.out _ B1.out).mono ?_; rintro r w2 ⟨rfl, hb2⟩
  have E2 := Lib.hid (obj_below E1.out hb2 (heap_lt E1.out))
  have R2 := Lib.hid (obj_below R1.out hb2 (heap_lt R1.out))
  have B2 := Lib.hid (B1.out.trans (hb2.mono B1.out.size))
  clear e0 e1 e2 e3 e4 ye hb2
  obtain ⟨e0, e1, e2, e3, e4⟩ := boxed_ex5 E2.out
  have ye := heap_lt E2.out
  obtain ⟨d0, d1, d2, d3, d4, d5, d6, d7, d8, d9⟩ := D.out
  have hbx := HBX.out
  have c0 : w2.cell? ⟨bx, ox, none⟩ = some (.int .i64 xo) := (B2.out.cell (p := ⟨bx, ox, none⟩) hbx).trans d0
  have c1 : w2.cell? ⟨bx, ox + 1, none⟩ = some (.int .i64 xt) := (B2.out.cell (p := ⟨bx, ox + 1, none⟩) hbx).trans d1
  have c2 : w2.cell? ⟨bx, ox + 2, none⟩ = some (.int .i64 xn) := (B2.out.cell (p := ⟨bx, ox + 2, none⟩) hbx).trans d2
  have c3 : w2.cell? ⟨bx, ox + 3, none⟩ = some (.int .i64 xm) := (B2.out.cell (p := ⟨bx, ox + 3, none⟩) hbx).trans d3
  have c4 : w2.cell? ⟨bx, ox + 4, none⟩ = some (.slice ss sn sc2) := (B2.out.cell (p := ⟨bx, ox + 4, none⟩) hbx).trans d4
  have c5 : w2.cell? ⟨bx, ox + 5, none⟩ = some (.int .i64 yo) := (B2.out.cell (p := ⟨bx, ox + 5, none⟩) hbx).trans d5
  have c6 : w2.cell? ⟨bx, ox + 5 + 1, none⟩ = some (.int .i64 yt) := (B2.out.cell (p := ⟨bx, ox + 5 + 1, none⟩) hbx).trans d6
  have c7 : w2.cell? ⟨bx, ox + 5 + 2, none⟩ = some (.int .i64 yn) := (B2.out.cell (p := ⟨bx, ox + 5 + 2, none⟩) hbx).trans d7
  have c8 : w2.cell? ⟨bx, ox + 5 + 3, none⟩ = some (.int .i64 ym) := (B2.out.cell (p := ⟨bx, ox + 5 + 3, none⟩) hbx).trans d8
  have c9 : w2.cell? ⟨bx, ox + 5 + 4, none⟩ = some (.slice ss' sn' sc2') := (B2.out.cell (p := ⟨bx, ox + 5 + 4, none⟩) hbx).trans d9
  have yb : bx < w2.heap.size := Nat.lt_of_lt_of_le hbx B2.out.size
  clear d0 d1 d2 d3 d4 d5 d6 d7 d8 d9 hbx
  go_wp2_with fail
  have qq0 := fun wt (h : Below w2.heap.size w2 wt) => cellB h e0 ye
  have qq1 := fun wt (h : Below w2.heap.size w2 wt) => cellB h e1 ye
  have qq2 := fun wt (h : Below w2.heap.size w2 wt) => cellB h e2 ye
  have qq3 := fun wt (h : Below w2.heap.size w2 wt) => cellB h e3 ye
  have qq4 := fun wt (h : Below w2.heap.size w2 wt) => cellB h e4 ye
  have qq5 := fun wt (h : Below w2.heap.size w2 wt) => cellB h c0 yb
  have qq6 := fun wt (h : Below w2.heap.size w2 wt) => cellB h c1 yb
  have qq7 := fun wt (h : Below w2.heap.size w2 wt) => cellB h c2 yb
  have qq8 := fun wt (h : Below w2.heap.size w2 wt) => cellB h c3 yb
  have qq9 := fun wt (h : Below w2.heap.size w2 wt) => cellB h c4 yb
  have qq10 := fun wt (h : Below w2.heap.size w2 wt) => cellB h c5 yb
  have qq11 := fun wt (h : Below w2.heap.size w2 wt) => cellB h c6 yb
  have qq12 := fun wt (h : Below w2.heap.size w2 wt) => cellB h c7 yb
  have qq13 := fun wt (h : Below w2.heap.size w2 wt) => cellB h c8 yb
  have qq14 := fun wt (h : Below w2.heap.size w2 wt) => cellB h c9 yb
  refine wp_region_held_drew (S := (fun w' => Below w2.heap.size w2 w')) (by kernel_rfl) ?_ (fun hHeld => ?_)
  · (try dsimp only); first | assumption | exact Below.alloc hHeld hHeld.size _ | exact (Below.refl _ _).drew | exact Below.drew (Below.refl _ _) | exact Below_drewN _ _ _ | exact Below.refl _ _
  refine tk 0 (v := ?_) (hy := ?_) (h := ?_); rotate_left
  · intro _ _; go_simp <;> with_reducible rfl
  try simp only [pu, pa, pz, ps]
  refine tk 1 (v := ?_) (hy := ?_) (h := ?_); rotate_left
  · intro wt hSw; (try dsimp only at hSw); go_simp <;> with_reducible rfl
  try simp only [pu, pa, pz, ps]
  refine tk 2 (v := ?_) (hy := ?_) (h := ?_); rotate_left
  · intro _ _; go_simp <;> with_reducible rfl
  try simp only [pu, pa, pz, ps]
  refine tk 3 (v := ?_) (hy := ?_) (h := ?_); rotate_left
  · intro wt hSw; (try dsimp only at hSw); go_simp <;> with_reducible rfl
  try simp only [pu, pa, pz, ps]
  refine tk 4 (v := ?_) (hy := ?_) (h := ?_); rotate_left
  · intro _ _; go_simp <;> with_reducible rfl
  try simp only [pu, pa, pz, ps]
  refine tk 5 (v := ?_) (hy := ?_) (h := ?_); rotate_left
  · intro wt hSw; (try dsimp only at hSw); go_simp <;> with_reducible rfl
  try simp only [pu, pa, pz, ps]
  refine tk 6 (v := ?_) (hy := ?_) (h := ?_); rotate_left
  · intro _ _; go_simp <;> with_reducible rfl
  try simp only [pu, pa, pz, ps]
  refine tk 7 (v := ?_) (hy := ?_) (h := ?_); rotate_left
  · intro wt hSw; (try dsimp only at hSw); go_simp <;> with_reducible rfl
  try simp only [pu, pa, pz, ps]
  refine wpAnyH_ready (rs := [8, 9]) (by kernel_rfl) (by simp) ?_
  refine AllReadyH.cons (o := ⟨_, _, _, _, _, _⟩) rfl (fun K hK => ?_) (AllReadyH.cons (o := ⟨_, _, _, _, _, _⟩) rfl (fun K hK => ?_) (AllReadyH.nil))
  go_simp
  refine hK.out _ _ ?_ (fun hHeld => ?_)
  · (try dsimp only); first | assumption | exact Below.alloc hHeld hHeld.size _ | exact (Below.refl _ _).drew | exact Below.drew (Below.refl _ _) | exact Below_drewN _ _ _ | exact Below.refl _ _
  clear hK K
  try simp only [pu, pa, pz, ps]
  refine wpAnyH_ready (rs := [9]) (by kernel_rfl) (by simp) ?_
  refine AllReadyH.cons (o := ⟨_, _, _, _, _, _⟩) rfl (fun K hK => ?_) AllReadyH.nil
  go_simp
  refine hK.out _ _ ?_ (fun hHeld => ?_)
  · (try dsimp only); first | assumption | exact Below.alloc hHeld hHeld.size _ | exact (Below.refl _ _).drew | exact Below.drew (Below.refl _ _) | exact Below_drewN _ _ _ | exact Below.refl _ _
  clear hK K
  try simp only [pu, pa, pz, ps]
  refine wpAnyH_ready (rs := [10]) (by kernel_rfl) (by simp) ?_
  refine AllReadyH.cons (o := ⟨_, _, _, _, _, _⟩) rfl (fun K hK => ?_) AllReadyH.nil
  go_simp
  refine hK.out _ _ ?_ (fun hHeld => ?_)
  · (try dsimp only); exact by (repeat' (first | (with_reducible exact Below.refl _ _) | (with_reducible assumption) | (with_reducible refine below_drewN ?_ _) | (with_reducible refine Below.alloc ?_ ?_ _) | (with_reducible refine Below.drew ?_) | (with_reducible refine Below.setCell ?_ ?_ _) | go_size))
  clear hK K
  try simp only [pu, pa, pz, ps]
  refine wpAnyH_ready (rs := [11]) (by kernel_rfl) (by simp) ?_
  refine AllReadyH.cons (o := ⟨_, _, _, _, _, _⟩) rfl (fun K hK => ?_) AllReadyH.nil
  go_simp
  refine hK.out _ _ ?_ (fun hHeld => ?_)
  · (try dsimp only); exact by (repeat' (first | (with_reducible exact Below.refl _ _) | (with_reducible assumption) | (with_reducible refine below_drewN ?_ _) | (with_reducible refine Below.alloc ?_ ?_ _) | (with_reducible refine Below.drew ?_) | (with_reducible refine Below.setCell ?_ ?_ _) | go_size))
  clear hK K
  try simp only [pu, pa, pz, ps]
  refine wpAnyH_done (by kernel_rfl) ?_ _
  have OA := Lib.hid (show (((w2.alloc (.cells #[.int .i64 xo, .int .i64 xt, .int .i64 xn, .int .i64 xm, .slice ss sn sc2] 37)).alloc (.cells #[.int .i64 yo, .int .i64 yt, .int .i64 yn, .int .i64 ym, .slice ss' sn' sc2'] 37)).drew).heap[w2.heap.size]? = some (.cells #[.int .i64 xo, .int .i64 xt, .int .i64 xn, .int .i64 xm, .slice ss sn sc2] 37) from (get_past (by simp)).trans (get_last rfl))
  have OB := Lib.hid (show (((w2.alloc (.cells #[.int .i64 xo, .int .i64 xt, .int .i64 xn, .int .i64 xm, .slice ss sn sc2] 37)).alloc (.cells #[.int .i64 yo, .int .i64 yt, .int .i64 yn, .int .i64 ym, .slice ss' sn' sc2'] 37)).drew).heap[w2.heap.size + 1]? = some (.cells #[.int .i64 yo, .int .i64 yt, .int .i64 yn, .int .i64 ym, .slice ss' sn' sc2'] 37) from get_last (by simp))
  have hb5 : Below w2.heap.size w2 (((w2.alloc (.cells #[.int .i64 xo, .int .i64 xt, .int .i64 xn, .int .i64 xm, .slice ss sn sc2] 37)).alloc (.cells #[.int .i64 yo, .int .i64 yt, .int .i64 yn, .int .i64 ym, .slice ss' sn' sc2'] 37)).drew) := by (repeat' (first | (with_reducible exact Below.refl _ _) | (with_reducible assumption) | (with_reducible refine below_drewN ?_ _) | (with_reducible refine Below.alloc ?_ ?_ _) | (with_reducible refine Below.drew ?_) | (with_reducible refine Below.setCell ?_ ?_ _) | go_size))
  generalize hW5 : ((w2.alloc (.cells #[.int .i64 xo, .int .i64 xt, .int .i64 xn, .int .i64 xm, .slice ss sn sc2] 37)).alloc (.cells #[.int .i64 yo, .int .i64 yt, .int .i64 yn, .int .i64 ym, .slice ss' sn' sc2'] 37)).drew = w5 at *
  clear hHeld hW5 e0 e1 e2 e3 e4 ye yb c0 c1 c2 c3 c4 c5 c6 c7 c8 c9
  have E5 := Lib.hid (obj_below E2.out hb5 (heap_lt E2.out))
  have R5 := Lib.hid (obj_below R2.out hb5 (heap_lt R2.out))
  have B5 := Lib.hid (B2.out.trans (hb5.mono B2.out.size))
  have n2 : w.heap.size + 1 ≠ w2.heap.size := by have := heap_lt R2.out; omega
  have n3 : w.heap.size + 1 ≠ w2.heap.size + 1 := by have := heap_lt R2.out; omega
  have HN := Lib.hid (And.intro n2 n3)
  clear n2 n3 hb5 E2 R2 B2 HOE HOR HB0 HW0 E1 R1 B1
  generalize w2.heap.size + 1 = qb at *
  generalize w2.heap.size = qa at *
  rotate_left
  go_simp
  refine hK.out _ _ ?_ (fun hHeld => ?_)
  · (try dsimp only); first | assumption | exact Below.alloc hHeld hHeld.size _ | exact (Below.refl _ _).drew | exact Below.drew (Below.refl _ _) | exact Below_drewN _ _ _ | exact Below.refl _ _
  clear hK K
  try simp only [pu, pa, pz, ps]
  refine wpAnyH_ready (rs := [8]) (by kernel_rfl) (by simp) ?_
  refine AllReadyH.cons (o := ⟨_, _, _, _, _, _⟩) rfl (fun K hK => ?_) AllReadyH.nil
  go_simp
  refine hK.out _ _ ?_ (fun hHeld => ?_)
  · (try dsimp only); first | assumption | exact Below.alloc hHeld hHeld.size _ | exact (Below.refl _ _).drew | exact Below.drew (Below.refl _ _) | exact Below_drewN _ _ _ | exact Below.refl _ _
  clear hK K
  try simp only [pu, pa, pz, ps]
  refine wpAnyH_ready (rs := [10]) (by kernel_rfl) (by simp) ?_
  refine AllReadyH.cons (o := ⟨_, _, _, _, _, _⟩) rfl (fun K hK => ?_) AllReadyH.nil
  go_simp
  refine hK.out _ _ ?_ (fun hHeld => ?_)
  · (try dsimp only); exact by (repeat' (first | (with_reducible exact Below.refl _ _) | (with_reducible assumption) | (with_reducible refine below_drewN ?_ _) | (with_reducible refine Below.alloc ?_ ?_ _) | (with_reducible refine Below.drew ?_) | (with_reducible refine Below.setCell ?_ ?_ _) | go_size))
  clear hK K
  try simp only [pu, pa, pz, ps]
  refine wpAnyH_ready (rs := [11]) (by kernel_rfl) (by simp) ?_
  refine AllReadyH.cons (o := ⟨_, _, _, _, _, _⟩) rfl (fun K hK => ?_) AllReadyH.nil
  go_simp
  refine hK.out _ _ ?_ (fun hHeld => ?_)
  · (try dsimp only); exact by (repeat' (first | (with_reducible exact Below.refl _ _) | (with_reducible assumption) | (with_reducible refine below_drewN ?_ _) | (with_reducible refine Below.alloc ?_ ?_ _) | (with_reducible refine Below.drew ?_) | (with_reducible refine Below.setCell ?_ ?_ _) | go_size))
  clear hK K
  try simp only [pu, pa, pz, ps]
  refine wpAnyH_done (by kernel_rfl) ?_ _
  have OB := Lib.hid (show (((w2.alloc (.cells #[.int .i64 yo, .int .i64 yt, .int .i64 yn, .int .i64 ym, .slice ss' sn' sc2'] 37)).alloc (.cells #[.int .i64 xo, .int .i64 xt, .int .i64 xn, .int .i64 xm, .slice ss sn sc2] 37)).drew).heap[w2.heap.size]? = some (.cells #[.int .i64 yo, .int .i64 yt, .int .i64 yn, .int .i64 ym, .slice ss' sn' sc2'] 37) from (get_past (by simp)).trans (get_last rfl))
  have OA := Lib.hid (show (((w2.alloc (.cells #[.int .i64 yo, .int .i64 yt, .int .i64 yn, .int .i64 ym, .slice ss' sn' sc2'] 37)).alloc (.cells #[.int .i64 xo, .int .i64 xt, .int .i64 xn, .int .i64 xm, .slice ss sn sc2] 37)).drew).heap[w2.heap.size + 1]? = some (.cells #[.int .i64 xo, .int .i64 xt, .int .i64 xn, .int .i64 xm, .slice ss sn sc2] 37) from get_last (by simp))
  have hb5 : Below w2.heap.size w2 (((w2.alloc (.cells #[.int .i64 yo, .int .i64 yt, .int .i64 yn, .int .i64 ym, .slice ss' sn' sc2'] 37)).alloc (.cells #[.int .i64 xo, .int .i64 xt, .int .i64 xn, .int .i64 xm, .slice ss sn sc2] 37)).drew) := by (repeat' (first | (with_reducible exact Below.refl _ _) | (with_reducible assumption) | (with_reducible refine below_drewN ?_ _) | (with_reducible refine Below.alloc ?_ ?_ _) | (with_reducible refine Below.drew ?_) | (with_reducible refine Below.setCell ?_ ?_ _) | go_size))
  generalize hW5 : ((w2.alloc (.cells #[.int .i64 yo, .int .i64 yt, .int .i64 yn, .int .i64 ym, .slice ss' sn' sc2'] 37)).alloc (.cells #[.int .i64 xo, .int .i64 xt, .int .i64 xn, .int .i64 xm, .slice ss sn sc2] 37)).drew = w5 at *
  clear hHeld hW5 e0 e1 e2 e3 e4 ye yb c0 c1 c2 c3 c4 c5 c6 c7 c8 c9
  have E5 := Lib.hid (obj_below E2.out hb5 (heap_lt E2.out))
  have R5 := Lib.hid (obj_below R2.out hb5 (heap_lt R2.out))
  have B5 := Lib.hid (B2.out.trans (hb5.mono B2.out.size))
  have n2 : w.heap.size + 1 ≠ w2.heap.size + 1 := by have := heap_lt R2.out; omega
  have n3 : w.heap.size + 1 ≠ w2.heap.size := by have := heap_lt R2.out; omega
  have HN := Lib.hid (And.intro n2 n3)
  clear n2 n3 hb5 E2 R2 B2 HOE HOR HB0 HW0 E1 R1 B1
  generalize w2.heap.size + 1 = qa at *
  generalize w2.heap.size = qb at *
  all_goals
    have e3 := obj_cell E5.out (i := 3) rfl
    have ye := heap_lt E5.out
    go_wp2_with fail
    refine (HJ.out _).mono ?_; rintro r v0 ⟨rfl, hv0⟩; rw [hv0]; clear hv0
    go_wp2_with fail
    clear e3 ye
    have R0 := Lib.hid (show w5.drew.heap[w.heap.size + 1]? = _ from R5.out)
    have B0 := Lib.hid (show Below w.heap.size w w5.drew from B5.out.drew)
    have hT0 : Kept w.heap.size qa qb _ _ _ w w5.drew := ⟨⟨E5.out, OA.out, OB.out⟩, B0.out⟩
    clear E5 OA OB R5 B5
    refine wp_region_held_drew (S := (fun w' => Kept w.heap.size qa qb (.cells #[.int .i64 7, .int .i64 0, .int .i64 0, .int .i64 m, .slice (some ⟨bx, ox, none⟩) 2 sc] 37) (.cells #[.int .i64 xo, .int .i64 xt, .int .i64 xn, .int .i64 xm, .slice ss sn sc2] 37) (.cells #[.int .i64 yo, .int .i64 yt, .int .i64 yn, .int .i64 ym, .slice ss' sn' sc2'] 37) w w')) (by kernel_rfl) ?_ (fun hHeld => ?_)
    · (try dsimp only); exact hT0
    refine tk 0 (v := ?_) (hy := ?_) (h := ?_); rotate_left
    · intro _ _; go_simp <;> with_reducible rfl
    try simp only [pu, pa, pz, ps]
    refine tk 1 (v := ?_) (hy := ?_) (h := ?_); rotate_left
    · intro wt hSw; (try dsimp only at hSw); have e3 := obj_cell hSw.o.e (i := 3) rfl; obtain ⟨a0, a1, a2, a3, a4⟩ := boxed_ex5 hSw.o.a; obtain ⟨b0, b1, b2, b3, b4⟩ := boxed_ex5 hSw.o.b; have za := heap_lt hSw.o.a; have zb := heap_lt hSw.o.b; have cF := obj_cell (obj_below HF.out hSw.b (heap_lt HF.out)) (i := 0) rfl; have yF := Nat.lt_of_lt_of_le (heap_lt HF.out) hSw.b.size; go_simp <;> with_reducible rfl
    try simp only [pu, pa, pz, ps]
    refine tk 2 (v := ?_) (hy := ?_) (h := ?_); rotate_left
    · intro wt hSw; (try dsimp only at hSw); have e3 := obj_cell hSw.o.e (i := 3) rfl; obtain ⟨a0, a1, a2, a3, a4⟩ := boxed_ex5 hSw.o.a; obtain ⟨b0, b1, b2, b3, b4⟩ := boxed_ex5 hSw.o.b; have za := heap_lt hSw.o.a; have zb := heap_lt hSw.o.b; have cF := obj_cell (obj_below HF.out hSw.b (heap_lt HF.out)) (i := 0) rfl; have yF := Nat.lt_of_lt_of_le (heap_lt HF.out) hSw.b.size; go_simp <;> with_reducible rfl
    try simp only [pu, pa, pz, ps]
    refine tk 3 (v := ?_) (hy := ?_) (h := ?_); rotate_left
    · intro _ _; go_simp <;> with_reducible rfl
    try simp only [pu, pa, pz, ps]
    refine tk 5 (v := ?_) (hy := ?_) (h := ?_); rotate_left
    · intro wt hSw; (try dsimp only at hSw); have e3 := obj_cell hSw.o.e (i := 3) rfl; obtain ⟨a0, a1, a2, a3, a4⟩ := boxed_ex5 hSw.o.a; obtain ⟨b0, b1, b2, b3, b4⟩ := boxed_ex5 hSw.o.b; have za := heap_lt hSw.o.a; have zb := heap_lt hSw.o.b; have cF := obj_cell (obj_below HF.out hSw.b (heap_lt HF.out)) (i := 0) rfl; have yF := Nat.lt_of_lt_of_le (heap_lt HF.out) hSw.b.size; go_simp <;> with_reducible rfl
    try simp only [pu, pa, pz, ps]
    refine tk 6 (v := ?_) (hy := ?_) (h := ?_); rotate_left
    · intro wt hSw; (try dsimp only at hSw); have e3 := obj_cell hSw.o.e (i := 3) rfl; obtain ⟨a0, a1, a2, a3, a4⟩ := boxed_ex5 hSw.o.a; obtain ⟨b0, b1, b2, b3, b4⟩ := boxed_ex5 hSw.o.b; have za := heap_lt hSw.o.a; have zb := heap_lt hSw.o.b; have cF := obj_cell (obj_below HF.out hSw.b (heap_lt HF.out)) (i := 0) rfl; have yF := Nat.lt_of_lt_of_le (heap_lt HF.out) hSw.b.size; go_simp <;> with_reducible rfl
    try simp only [pu, pa, pz, ps]
    refine tk 7 (v := ?_) (hy := ?_) (h := ?_); rotate_left
    · intro _ _; go_simp <;> with_reducible rfl
    try simp only [pu, pa, pz, ps]
    refine wpAnyH_ready (rs := [4]) (by kernel_rfl) (by simp) ?_
    refine AllReadyH.cons (o := ⟨_, _, _, _, _, _⟩) rfl (fun K hK => ?_) AllReadyH.nil
    go_simp
    refine (HAa.out _ _ (HVx.out _ B0.out) (obj_below HF.out B0.out (heap_lt HF.out))).mono ?_; rintro r v1 ⟨z0, rfl, hz0, hb⟩; have hb1 := Lib.hid hb; clear hb
    go_wp2_with fail
    refine hK.out _ _ ?_ (fun hHeld => ?_)
    · (try dsimp only); exact hHeld.below hb1.out
    clear hK K
    have R1 := Lib.hid (obj_below R0.out hb1.out (heap_lt R0.out))
    have B1 := Lib.hid (B0.out.trans (hb1.out.mono B0.out.size))
    have Z0 := Lib.hid hz0
    clear hz0
    try simp only [pu, pa, pz, ps]
    refine wpAnyH_ready (rs := [8]) (by kernel_rfl) (by simp) ?_
    refine AllReadyH.cons (o := ⟨_, _, _, _, _, _⟩) rfl (fun K hK => ?_) AllReadyH.nil
    go_simp
    refine (HBb.out _ _ (HVy.out _ B1.out) (obj_below HF.out B1.out (heap_lt HF.out))).mono ?_; rintro r v2 ⟨z1, rfl, hz1, hb⟩; have hb2 := Lib.hid hb; clear hb
    go_wp2_with fail
    refine hK.out _ _ ?_ (fun hHeld => ?_)
    · (try dsimp only); exact hHeld.below hb2.out
    clear hK K
    have R2 := Lib.hid (obj_below R1.out hb2.out (heap_lt R1.out))
    have B2 := Lib.hid (B1.out.trans (hb2.out.mono B1.out.size))
    have Z1 := Lib.hid hz1
    have Z0 := Lib.hid (Z0.out.below hb2.out)
    clear hz1
    try simp only [pu, pa, pz, ps]
    refine wpAnyH_ready (rs := [9]) (by kernel_rfl) (by simp) ?_
    refine AllReadyH.cons (o := ⟨_, _, _, _, _, _⟩) rfl (fun K hK => ?_) AllReadyH.nil
    go_simp
    refine (nnf_bin _ _ _ _ _ _ HM.out Z0.out Z1.out).mono ?_; rintro r v3 ⟨z2, rfl, hz2, hb⟩; have hb3 := Lib.hid hb; clear hb
    go_wp2_with fail
    refine hK.out _ _ ?_ (fun hHeld => ?_)
    · (try dsimp only); exact hHeld.below hb3.out
    clear hK K
    have R3 := Lib.hid (obj_below R2.out hb3.out (heap_lt R2.out))
    have B3 := Lib.hid (B2.out.trans (hb3.out.mono B2.out.size))
    have Z2 := Lib.hid hz2
    clear hz2
    obtain ⟨a, k, c, hzf⟩ := ex_form Z2.out
    rw [hzf] at Z2
    rw [hzf]
    clear hzf
    obtain ⟨f0, f1, f2, f3, f4⟩ := frozen5 R3.out
    obtain ⟨g0, g1, g2, g3, g4⟩ := boxed_ex5 R3.out
    have yr := heap_lt R3.out
    try simp only [pu, pa, pz, ps]
    refine wpAnyH_ready (rs := [10]) (by kernel_rfl) (by simp) ?_
    refine AllReadyH.cons (o := ⟨_, _, _, _, _, _⟩) rfl (fun K hK => ?_) AllReadyH.nil
    go_simp
    refine hK.out _ _ ?_ (fun hHeld => ?_)
    · (try dsimp only); exact hHeld.sets (by omega) HN.out.1 HN.out.2 (by omega) _ _ _ _ _
    clear hK K
    try simp only [pu, pa, pz, ps]
    refine wpAnyH_done (by kernel_rfl) ?_ _
    clear hHeld
    go_wp2_with fail
    obtain ⟨y, hy⟩ : ∃ y, binE (m) Aa Bb = y := ⟨_, rfl⟩
    rw [hy] at Z2 HZ ⊢
    obtain ⟨w5, hW5, oo, HE, HB3⟩ := store_ex R3.out Z2.out HZ.out B3.out (by omega)
    rw [← hW5]
    obtain ⟨e0, e1, e2, e3, e4⟩ := boxed_ex5 oo
    refine bodyPost_ret (by simp [results, Tryd.results45, go_sem, e0, e1, e2, e3, e4]; try rfl) rfl ?_
    exact ⟨_, rfl, HE, HB3⟩
set_option maxRecDepth 100000 in
set_option maxHeartbeats 8000000 in
theorem norm_jt (x y Aa Bb : Ex) (m : Int) (hj : jun m = true) (g : Nat) (ty : TypeId) (hz : noZ (binE (other m) Aa Bb) = true) (HAa : ∀ w v, ExV w v x → FnAt g ty w → Calls Tryd.prog 45 #[v, .bool true, .pointer (some ⟨g, 0, none⟩)] w fun r w' => ∃ z, r = .returned z ∧ ExV w' z Aa ∧ Below w.heap.size w w') (HBb : ∀ w v, ExV w v y → FnAt g ty w → Calls Tryd.prog 45 #[v, .bool true, .pointer (some ⟨g, 0, none⟩)] w fun r w' => ∃ z, r = .returned z ∧ ExV w' z Bb ∧ Below w.heap.size w w') (w : World) (v : Value) (hv : ExV w v ⟨7, 0, 0, m, [x, y]⟩) (hF : FnAt g ty w) :
    Calls Tryd.prog 45 #[v, .bool true, .pointer (some ⟨g, 0, none⟩)] w fun r w' => ∃ z, r = .returned z ∧ ExV w' z (binE (other m) Aa Bb) ∧ Below w.heap.size w w' := by
  have hmI : I64 m := by obtain ⟨_, _, hi, _⟩ := hv; exact hi.2.2.2
  have HNot := Lib.hid (fun W (hb : Below w.heap.size w W) => nnf_not _ W v (hv.below hb))
  have HBoth := Lib.hid (fun W (hb : Below w.heap.size w W) => nnf_both _ W v (hv.below hb))
  have HJ := Lib.hid (fun W => nnf_junction m W)
  rw [notB_bin] at HNot
  rw [bothB_bin] at HBoth
  rw [hj] at HJ
  have HM := Lib.hid hmI
  have HZ := Lib.hid hz
  clear hj hmI hz
  have HAa := Lib.hid HAa
  have HBb := Lib.hid HBb
  have HO := Lib.hid (fun W => nnf_other m W)
  have hoI : I64 (other m) := by unfold other I64; split <;> omega
  generalize other m = om at *
  have HM := Lib.hid hoI
  clear hoI
  obtain ⟨sl, rfl, hr, hrow⟩ := hv
  simp only at hrow
  obtain ⟨sa, sc, rfl⟩ := row_get hrow
  obtain ⟨bx, ox, ss, sn, sc2, rfl, hbx, q1, q2, d0, d1, d2, d3, d4, dV⟩ := ex_at hrow (k := 0) (x := x) rfl
  obtain ⟨_, _, ss', sn', sc2', hh, _, _, _, d5, d6, d7, d8, d9, dV'⟩ := ex_at hrow (k := 1) (x := y) rfl
  obtain ⟨rfl, rfl⟩ : bx = _ ∧ ox = _ := by injection hh with hh; injection hh with h1 h2; exact ⟨h1, h2⟩
  have hl2 : ([x, y] : List Ex).length = 2 := rfl
  rw [hl2]
  clear hh
  obtain ⟨W0, hW0⟩ : ∃ W0, W0 = (w.alloc (.cells #[.int .i64 7, .int .i64 0, .int .i64 0, .int .i64 m, .slice (some ⟨bx, ox, none⟩) 2 sc] 37)).alloc (.cells #[.int .i64 0, .int .i64 0, .int .i64 0, .int .i64 0, .slice none 0 0] 37) := ⟨_, rfl⟩
  have oE : W0.heap[w.heap.size]? = some (.cells #[.int .i64 7, .int .i64 0, .int .i64 0, .int .i64 m, .slice (some ⟨bx, ox, none⟩) 2 sc] 37) := by rw [hW0]; exact (get_past (by simp)).trans (get_last rfl)
  have oR : W0.heap[w.heap.size + 1]? = some (.cells #[.int .i64 0, .int .i64 0, .int .i64 0, .int .i64 0, .slice none 0 0] 37) := by rw [hW0]; exact get_last (by simp)
  have hbw : Below w.heap.size w W0 := by rw [hW0]; exact by (repeat' (first | (with_reducible exact Below.refl _ _) | (with_reducible assumption) | (with_reducible refine below_drewN ?_ _) | (with_reducible refine Below.alloc ?_ ?_ _) | (with_reducible refine Below.drew ?_) | (with_reducible refine Below.setCell ?_ ?_ _) | go_size))
  have HW0 := Lib.hid hW0
  have HVx := Lib.hid (fun W (hb : Below w.heap.size w W) => dV.below hb)
  have HVy := Lib.hid (fun W (hb : Below w.heap.size w W) => dV'.below hb)
  obtain ⟨yo, yt, yn, ym, yl⟩ := y
  obtain ⟨xo, xt, xn, xm, xl⟩ := x
  replace d0 : w.cell? ⟨bx, ox, none⟩ = some (.int .i64 xo) := by simpa using d0
  replace d1 : w.cell? ⟨bx, ox + 1, none⟩ = some (.int .i64 xt) := by simpa using d1
  replace d2 : w.cell? ⟨bx, ox + 2, none⟩ = some (.int .i64 xn) := by simpa using d2
  replace d3 : w.cell? ⟨bx, ox + 3, none⟩ = some (.int .i64 xm) := by simpa using d3
  replace d4 : w.cell? ⟨bx, ox + 4, none⟩ = some (.slice ss sn sc2) := by simpa using d4
  replace d5 : w.cell? ⟨bx, ox + 5, none⟩ = some (.int .i64 yo) := by simpa using d5
  replace d6 : w.cell? ⟨bx, ox + 5 + 1, none⟩ = some (.int .i64 yt) := by simpa using d6
  replace d7 : w.cell? ⟨bx, ox + 5 + 2, none⟩ = some (.int .i64 yn) := by simpa using d7
  replace d8 : w.cell? ⟨bx, ox + 5 + 3, none⟩ = some (.int .i64 ym) := by simpa using d8
  replace d9 : w.cell? ⟨bx, ox + 5 + 4, none⟩ = some (.slice ss' sn' sc2') := by simpa using d9
  have D := Lib.hid (And.intro d0 (And.intro d1 (And.intro d2 (And.intro d3 (And.intro d4 (And.intro d5 (And.intro d6 (And.intro d7 (And.intro d8 d9)))))))))
  have HBX := Lib.hid hbx
  have HF := Lib.hid hF
  have HOE := Lib.hid oE
  have HOR := Lib.hid oR
  have HB0 := Lib.hid hbw
  have mixed : Tryd.prog.follows .mixedOrders = true := by kernel_rfl
  clear hW0 oE oR hbw dV dV' hr hrow q1 q2 hF d0 d1 d2 d3 d4 d5 d6 d7 d8 d9 hbx
  rw [hl2] at HNot HBoth
  clear hl2
  go_enter Tryd.func45, Tryd.ntmps45
  go_wp2_with fail
  refine (HNot.out _ (by (repeat' (first | (with_reducible exact Below.refl _ _) | (with_reducible assumption) | (with_reducible refine below_drewN ?_ _) | (with_reducible refine Below.alloc ?_ ?_ _) | (with_reducible refine Below.drew ?_) | (with_reducible refine Below.setCell ?_ ?_ _) | go_size)))).mono ?_; rintro r w1 ⟨rfl, hb1⟩
  rw [← HW0.out] at hb1
  have E1 := Lib.hid (obj_below HOE.out hb1 (heap_lt HOE.out))
  have R1 := Lib.hid (obj_below HOR.out hb1 (heap_lt HOR.out))
  have B1 := Lib.hid (HB0.out.trans (hb1.mono HB0.out.size))
  clear hb1
  obtain ⟨e0, e1, e2, e3, e4⟩ := boxed_ex5 E1.out
  have ye := heap_lt E1.out
  go_wp2_with fail
  refine (HBoth.out _ B1.out).mono ?_; rintro r w2 ⟨rfl, hb2⟩
  have E2 := Lib.hid (obj_below E1.out hb2 (heap_lt E1.out))
  have R2 := Lib.hid (obj_below R1.out hb2 (heap_lt R1.out))
  have B2 := Lib.hid (B1.out.trans (hb2.mono B1.out.size))
  clear e0 e1 e2 e3 e4 ye hb2
  obtain ⟨e0, e1, e2, e3, e4⟩ := boxed_ex5 E2.out
  have ye := heap_lt E2.out
  obtain ⟨d0, d1, d2, d3, d4, d5, d6, d7, d8, d9⟩ := D.out
  have hbx := HBX.out
  have c0 : w2.cell? ⟨bx, ox, none⟩ = some (.int .i64 xo) := (B2.out.cell (p := ⟨bx, ox, none⟩) hbx).trans d0
  have c1 : w2.cell? ⟨bx, ox + 1, none⟩ = some (.int .i64 xt) := (B2.out.cell (p := ⟨bx, ox + 1, none⟩) hbx).trans d1
  have c2 : w2.cell? ⟨bx, ox + 2, none⟩ = some (.int .i64 xn) := (B2.out.cell (p := ⟨bx, ox + 2, none⟩) hbx).trans d2
  have c3 : w2.cell? ⟨bx, ox + 3, none⟩ = some (.int .i64 xm) := (B2.out.cell (p := ⟨bx, ox + 3, none⟩) hbx).trans d3
  have c4 : w2.cell? ⟨bx, ox + 4, none⟩ = some (.slice ss sn sc2) := (B2.out.cell (p := ⟨bx, ox + 4, none⟩) hbx).trans d4
  have c5 : w2.cell? ⟨bx, ox + 5, none⟩ = some (.int .i64 yo) := (B2.out.cell (p := ⟨bx, ox + 5, none⟩) hbx).trans d5
  have c6 : w2.cell? ⟨bx, ox + 5 + 1, none⟩ = some (.int .i64 yt) := (B2.out.cell (p := ⟨bx, ox + 5 + 1, none⟩) hbx).trans d6
  have c7 : w2.cell? ⟨bx, ox + 5 + 2, none⟩ = some (.int .i64 yn) := (B2.out.cell (p := ⟨bx, ox + 5 + 2, none⟩) hbx).trans d7
  have c8 : w2.cell? ⟨bx, ox + 5 + 3, none⟩ = some (.int .i64 ym) := (B2.out.cell (p := ⟨bx, ox + 5 + 3, none⟩) hbx).trans d8
  have c9 : w2.cell? ⟨bx, ox + 5 + 4, none⟩ = some (.slice ss' sn' sc2') := (B2.out.cell (p := ⟨bx, ox + 5 + 4, none⟩) hbx).trans d9
  have yb : bx < w2.heap.size := Nat.lt_of_lt_of_le hbx B2.out.size
  clear d0 d1 d2 d3 d4 d5 d6 d7 d8 d9 hbx
  go_wp2_with fail
  have qq0 := fun wt (h : Below w2.heap.size w2 wt) => cellB h e0 ye
  have qq1 := fun wt (h : Below w2.heap.size w2 wt) => cellB h e1 ye
  have qq2 := fun wt (h : Below w2.heap.size w2 wt) => cellB h e2 ye
  have qq3 := fun wt (h : Below w2.heap.size w2 wt) => cellB h e3 ye
  have qq4 := fun wt (h : Below w2.heap.size w2 wt) => cellB h e4 ye
  have qq5 := fun wt (h : Below w2.heap.size w2 wt) => cellB h c0 yb
  have qq6 := fun wt (h : Below w2.heap.size w2 wt) => cellB h c1 yb
  have qq7 := fun wt (h : Below w2.heap.size w2 wt) => cellB h c2 yb
  have qq8 := fun wt (h : Below w2.heap.size w2 wt) => cellB h c3 yb
  have qq9 := fun wt (h : Below w2.heap.size w2 wt) => cellB h c4 yb
  have qq10 := fun wt (h : Below w2.heap.size w2 wt) => cellB h c5 yb
  have qq11 := fun wt (h : Below w2.heap.size w2 wt) => cellB h c6 yb
  have qq12 := fun wt (h : Below w2.heap.size w2 wt) => cellB h c7 yb
  have qq13 := fun wt (h : Below w2.heap.size w2 wt) => cellB h c8 yb
  have qq14 := fun wt (h : Below w2.heap.size w2 wt) => cellB h c9 yb
  refine wp_region_held_drew (S := (fun w' => Below w2.heap.size w2 w')) (by kernel_rfl) ?_ (fun hHeld => ?_)
  · (try dsimp only); first | assumption | exact Below.alloc hHeld hHeld.size _ | exact (Below.refl _ _).drew | exact Below.drew (Below.refl _ _) | exact Below_drewN _ _ _ | exact Below.refl _ _
  refine tk 0 (v := ?_) (hy := ?_) (h := ?_); rotate_left
  · intro _ _; go_simp <;> with_reducible rfl
  try simp only [pu, pa, pz, ps]
  refine tk 1 (v := ?_) (hy := ?_) (h := ?_); rotate_left
  · intro wt hSw; (try dsimp only at hSw); go_simp <;> with_reducible rfl
  try simp only [pu, pa, pz, ps]
  refine tk 2 (v := ?_) (hy := ?_) (h := ?_); rotate_left
  · intro _ _; go_simp <;> with_reducible rfl
  try simp only [pu, pa, pz, ps]
  refine tk 3 (v := ?_) (hy := ?_) (h := ?_); rotate_left
  · intro wt hSw; (try dsimp only at hSw); go_simp <;> with_reducible rfl
  try simp only [pu, pa, pz, ps]
  refine tk 4 (v := ?_) (hy := ?_) (h := ?_); rotate_left
  · intro _ _; go_simp <;> with_reducible rfl
  try simp only [pu, pa, pz, ps]
  refine tk 5 (v := ?_) (hy := ?_) (h := ?_); rotate_left
  · intro wt hSw; (try dsimp only at hSw); go_simp <;> with_reducible rfl
  try simp only [pu, pa, pz, ps]
  refine tk 6 (v := ?_) (hy := ?_) (h := ?_); rotate_left
  · intro _ _; go_simp <;> with_reducible rfl
  try simp only [pu, pa, pz, ps]
  refine tk 7 (v := ?_) (hy := ?_) (h := ?_); rotate_left
  · intro wt hSw; (try dsimp only at hSw); go_simp <;> with_reducible rfl
  try simp only [pu, pa, pz, ps]
  refine wpAnyH_ready (rs := [8, 9]) (by kernel_rfl) (by simp) ?_
  refine AllReadyH.cons (o := ⟨_, _, _, _, _, _⟩) rfl (fun K hK => ?_) (AllReadyH.cons (o := ⟨_, _, _, _, _, _⟩) rfl (fun K hK => ?_) (AllReadyH.nil))
  go_simp
  refine hK.out _ _ ?_ (fun hHeld => ?_)
  · (try dsimp only); first | assumption | exact Below.alloc hHeld hHeld.size _ | exact (Below.refl _ _).drew | exact Below.drew (Below.refl _ _) | exact Below_drewN _ _ _ | exact Below.refl _ _
  clear hK K
  try simp only [pu, pa, pz, ps]
  refine wpAnyH_ready (rs := [9]) (by kernel_rfl) (by simp) ?_
  refine AllReadyH.cons (o := ⟨_, _, _, _, _, _⟩) rfl (fun K hK => ?_) AllReadyH.nil
  go_simp
  refine hK.out _ _ ?_ (fun hHeld => ?_)
  · (try dsimp only); first | assumption | exact Below.alloc hHeld hHeld.size _ | exact (Below.refl _ _).drew | exact Below.drew (Below.refl _ _) | exact Below_drewN _ _ _ | exact Below.refl _ _
  clear hK K
  try simp only [pu, pa, pz, ps]
  refine wpAnyH_ready (rs := [10]) (by kernel_rfl) (by simp) ?_
  refine AllReadyH.cons (o := ⟨_, _, _, _, _, _⟩) rfl (fun K hK => ?_) AllReadyH.nil
  go_simp
  refine hK.out _ _ ?_ (fun hHeld => ?_)
  · (try dsimp only); exact by (repeat' (first | (with_reducible exact Below.refl _ _) | (with_reducible assumption) | (with_reducible refine below_drewN ?_ _) | (with_reducible refine Below.alloc ?_ ?_ _) | (with_reducible refine Below.drew ?_) | (with_reducible refine Below.setCell ?_ ?_ _) | go_size))
  clear hK K
  try simp only [pu, pa, pz, ps]
  refine wpAnyH_ready (rs := [11]) (by kernel_rfl) (by simp) ?_
  refine AllReadyH.cons (o := ⟨_, _, _, _, _, _⟩) rfl (fun K hK => ?_) AllReadyH.nil
  go_simp
  refine hK.out _ _ ?_ (fun hHeld => ?_)
  · (try dsimp only); exact by (repeat' (first | (with_reducible exact Below.refl _ _) | (with_reducible assumption) | (with_reducible refine below_drewN ?_ _) | (with_reducible refine Below.alloc ?_ ?_ _) | (with_reducible refine Below.drew ?_) | (with_reducible refine Below.setCell ?_ ?_ _) | go_size))
  clear hK K
  try simp only [pu, pa, pz, ps]
  refine wpAnyH_done (by kernel_rfl) ?_ _
  have OA := Lib.hid (show (((w2.alloc (.cells #[.int .i64 xo, .int .i64 xt, .int .i64 xn, .int .i64 xm, .slice ss sn sc2] 37)).alloc (.cells #[.int .i64 yo, .int .i64 yt, .int .i64 yn, .int .i64 ym, .slice ss' sn' sc2'] 37)).drew).heap[w2.heap.size]? = some (.cells #[.int .i64 xo, .int .i64 xt, .int .i64 xn, .int .i64 xm, .slice ss sn sc2] 37) from (get_past (by simp)).trans (get_last rfl))
  have OB := Lib.hid (show (((w2.alloc (.cells #[.int .i64 xo, .int .i64 xt, .int .i64 xn, .int .i64 xm, .slice ss sn sc2] 37)).alloc (.cells #[.int .i64 yo, .int .i64 yt, .int .i64 yn, .int .i64 ym, .slice ss' sn' sc2'] 37)).drew).heap[w2.heap.size + 1]? = some (.cells #[.int .i64 yo, .int .i64 yt, .int .i64 yn, .int .i64 ym, .slice ss' sn' sc2'] 37) from get_last (by simp))
  have hb5 : Below w2.heap.size w2 (((w2.alloc (.cells #[.int .i64 xo, .int .i64 xt, .int .i64 xn, .int .i64 xm, .slice ss sn sc2] 37)).alloc (.cells #[.int .i64 yo, .int .i64 yt, .int .i64 yn, .int .i64 ym, .slice ss' sn' sc2'] 37)).drew) := by (repeat' (first | (with_reducible exact Below.refl _ _) | (with_reducible assumption) | (with_reducible refine below_drewN ?_ _) | (with_reducible refine Below.alloc ?_ ?_ _) | (with_reducible refine Below.drew ?_) | (with_reducible refine Below.setCell ?_ ?_ _) | go_size))
  generalize hW5 : ((w2.alloc (.cells #[.int .i64 xo, .int .i64 xt, .int .i64 xn, .int .i64 xm, .slice ss sn sc2] 37)).alloc (.cells #[.int .i64 yo, .int .i64 yt, .int .i64 yn, .int .i64 ym, .slice ss' sn' sc2'] 37)).drew = w5 at *
  clear hHeld hW5 e0 e1 e2 e3 e4 ye yb c0 c1 c2 c3 c4 c5 c6 c7 c8 c9
  have E5 := Lib.hid (obj_below E2.out hb5 (heap_lt E2.out))
  have R5 := Lib.hid (obj_below R2.out hb5 (heap_lt R2.out))
  have B5 := Lib.hid (B2.out.trans (hb5.mono B2.out.size))
  have n2 : w.heap.size + 1 ≠ w2.heap.size := by have := heap_lt R2.out; omega
  have n3 : w.heap.size + 1 ≠ w2.heap.size + 1 := by have := heap_lt R2.out; omega
  have HN := Lib.hid (And.intro n2 n3)
  clear n2 n3 hb5 E2 R2 B2 HOE HOR HB0 HW0 E1 R1 B1
  generalize w2.heap.size + 1 = qb at *
  generalize w2.heap.size = qa at *
  rotate_left
  go_simp
  refine hK.out _ _ ?_ (fun hHeld => ?_)
  · (try dsimp only); first | assumption | exact Below.alloc hHeld hHeld.size _ | exact (Below.refl _ _).drew | exact Below.drew (Below.refl _ _) | exact Below_drewN _ _ _ | exact Below.refl _ _
  clear hK K
  try simp only [pu, pa, pz, ps]
  refine wpAnyH_ready (rs := [8]) (by kernel_rfl) (by simp) ?_
  refine AllReadyH.cons (o := ⟨_, _, _, _, _, _⟩) rfl (fun K hK => ?_) AllReadyH.nil
  go_simp
  refine hK.out _ _ ?_ (fun hHeld => ?_)
  · (try dsimp only); first | assumption | exact Below.alloc hHeld hHeld.size _ | exact (Below.refl _ _).drew | exact Below.drew (Below.refl _ _) | exact Below_drewN _ _ _ | exact Below.refl _ _
  clear hK K
  try simp only [pu, pa, pz, ps]
  refine wpAnyH_ready (rs := [10]) (by kernel_rfl) (by simp) ?_
  refine AllReadyH.cons (o := ⟨_, _, _, _, _, _⟩) rfl (fun K hK => ?_) AllReadyH.nil
  go_simp
  refine hK.out _ _ ?_ (fun hHeld => ?_)
  · (try dsimp only); exact by (repeat' (first | (with_reducible exact Below.refl _ _) | (with_reducible assumption) | (with_reducible refine below_drewN ?_ _) | (with_reducible refine Below.alloc ?_ ?_ _) | (with_reducible refine Below.drew ?_) | (with_reducible refine Below.setCell ?_ ?_ _) | go_size))
  clear hK K
  try simp only [pu, pa, pz, ps]
  refine wpAnyH_ready (rs := [11]) (by kernel_rfl) (by simp) ?_
  refine AllReadyH.cons (o := ⟨_, _, _, _, _, _⟩) rfl (fun K hK => ?_) AllReadyH.nil
  go_simp
  refine hK.out _ _ ?_ (fun hHeld => ?_)
  · (try dsimp only); exact by (repeat' (first | (with_reducible exact Below.refl _ _) | (with_reducible assumption) | (with_reducible refine below_drewN ?_ _) | (with_reducible refine Below.alloc ?_ ?_ _) | (with_reducible refine Below.drew ?_) | (with_reducible refine Below.setCell ?_ ?_ _) | go_size))
  clear hK K
  try simp only [pu, pa, pz, ps]
  refine wpAnyH_done (by kernel_rfl) ?_ _
  have OB := Lib.hid (show (((w2.alloc (.cells #[.int .i64 yo, .int .i64 yt, .int .i64 yn, .int .i64 ym, .slice ss' sn' sc2'] 37)).alloc (.cells #[.int .i64 xo, .int .i64 xt, .int .i64 xn, .int .i64 xm, .slice ss sn sc2] 37)).drew).heap[w2.heap.size]? = some (.cells #[.int .i64 yo, .int .i64 yt, .int .i64 yn, .int .i64 ym, .slice ss' sn' sc2'] 37) from (get_past (by simp)).trans (get_last rfl))
  have OA := Lib.hid (show (((w2.alloc (.cells #[.int .i64 yo, .int .i64 yt, .int .i64 yn, .int .i64 ym, .slice ss' sn' sc2'] 37)).alloc (.cells #[.int .i64 xo, .int .i64 xt, .int .i64 xn, .int .i64 xm, .slice ss sn sc2] 37)).drew).heap[w2.heap.size + 1]? = some (.cells #[.int .i64 xo, .int .i64 xt, .int .i64 xn, .int .i64 xm, .slice ss sn sc2] 37) from get_last (by simp))
  have hb5 : Below w2.heap.size w2 (((w2.alloc (.cells #[.int .i64 yo, .int .i64 yt, .int .i64 yn, .int .i64 ym, .slice ss' sn' sc2'] 37)).alloc (.cells #[.int .i64 xo, .int .i64 xt, .int .i64 xn, .int .i64 xm, .slice ss sn sc2] 37)).drew) := by (repeat' (first | (with_reducible exact Below.refl _ _) | (with_reducible assumption) | (with_reducible refine below_drewN ?_ _) | (with_reducible refine Below.alloc ?_ ?_ _) | (with_reducible refine Below.drew ?_) | (with_reducible refine Below.setCell ?_ ?_ _) | go_size))
  generalize hW5 : ((w2.alloc (.cells #[.int .i64 yo, .int .i64 yt, .int .i64 yn, .int .i64 ym, .slice ss' sn' sc2'] 37)).alloc (.cells #[.int .i64 xo, .int .i64 xt, .int .i64 xn, .int .i64 xm, .slice ss sn sc2] 37)).drew = w5 at *
  clear hHeld hW5 e0 e1 e2 e3 e4 ye yb c0 c1 c2 c3 c4 c5 c6 c7 c8 c9
  have E5 := Lib.hid (obj_below E2.out hb5 (heap_lt E2.out))
  have R5 := Lib.hid (obj_below R2.out hb5 (heap_lt R2.out))
  have B5 := Lib.hid (B2.out.trans (hb5.mono B2.out.size))
  have n2 : w.heap.size + 1 ≠ w2.heap.size + 1 := by have := heap_lt R2.out; omega
  have n3 : w.heap.size + 1 ≠ w2.heap.size := by have := heap_lt R2.out; omega
  have HN := Lib.hid (And.intro n2 n3)
  clear n2 n3 hb5 E2 R2 B2 HOE HOR HB0 HW0 E1 R1 B1
  generalize w2.heap.size + 1 = qa at *
  generalize w2.heap.size = qb at *
  all_goals
    have e3 := obj_cell E5.out (i := 3) rfl
    have ye := heap_lt E5.out
    go_wp2_with fail
    refine (HJ.out _).mono ?_; rintro r v0 ⟨rfl, hv0⟩; rw [hv0]; clear hv0
    go_wp2_with fail
    refine (HO.out _).mono ?_; rintro r v0 ⟨rfl, hv0⟩; rw [hv0]; clear hv0
    go_wp2_with fail
    clear e3 ye
    have R0 := Lib.hid (show w5.drew.heap[w.heap.size + 1]? = _ from R5.out)
    have B0 := Lib.hid (show Below w.heap.size w w5.drew from B5.out.drew)
    have hT0 : Kept w.heap.size qa qb _ _ _ w w5.drew := ⟨⟨E5.out, OA.out, OB.out⟩, B0.out⟩
    clear E5 OA OB R5 B5
    refine wp_region_held_drew (S := (fun w' => Kept w.heap.size qa qb (.cells #[.int .i64 7, .int .i64 0, .int .i64 0, .int .i64 m, .slice (some ⟨bx, ox, none⟩) 2 sc] 37) (.cells #[.int .i64 xo, .int .i64 xt, .int .i64 xn, .int .i64 xm, .slice ss sn sc2] 37) (.cells #[.int .i64 yo, .int .i64 yt, .int .i64 yn, .int .i64 ym, .slice ss' sn' sc2'] 37) w w')) (by kernel_rfl) ?_ (fun hHeld => ?_)
    · (try dsimp only); exact hT0
    refine tk 0 (v := ?_) (hy := ?_) (h := ?_); rotate_left
    · intro _ _; go_simp <;> with_reducible rfl
    try simp only [pu, pa, pz, ps]
    refine tk 1 (v := ?_) (hy := ?_) (h := ?_); rotate_left
    · intro wt hSw; (try dsimp only at hSw); have e3 := obj_cell hSw.o.e (i := 3) rfl; obtain ⟨a0, a1, a2, a3, a4⟩ := boxed_ex5 hSw.o.a; obtain ⟨b0, b1, b2, b3, b4⟩ := boxed_ex5 hSw.o.b; have za := heap_lt hSw.o.a; have zb := heap_lt hSw.o.b; have cF := obj_cell (obj_below HF.out hSw.b (heap_lt HF.out)) (i := 0) rfl; have yF := Nat.lt_of_lt_of_le (heap_lt HF.out) hSw.b.size; go_simp <;> with_reducible rfl
    try simp only [pu, pa, pz, ps]
    refine tk 2 (v := ?_) (hy := ?_) (h := ?_); rotate_left
    · intro wt hSw; (try dsimp only at hSw); have e3 := obj_cell hSw.o.e (i := 3) rfl; obtain ⟨a0, a1, a2, a3, a4⟩ := boxed_ex5 hSw.o.a; obtain ⟨b0, b1, b2, b3, b4⟩ := boxed_ex5 hSw.o.b; have za := heap_lt hSw.o.a; have zb := heap_lt hSw.o.b; have cF := obj_cell (obj_below HF.out hSw.b (heap_lt HF.out)) (i := 0) rfl; have yF := Nat.lt_of_lt_of_le (heap_lt HF.out) hSw.b.size; go_simp <;> with_reducible rfl
    try simp only [pu, pa, pz, ps]
    refine tk 3 (v := ?_) (hy := ?_) (h := ?_); rotate_left
    · intro _ _; go_simp <;> with_reducible rfl
    try simp only [pu, pa, pz, ps]
    refine tk 5 (v := ?_) (hy := ?_) (h := ?_); rotate_left
    · intro wt hSw; (try dsimp only at hSw); have e3 := obj_cell hSw.o.e (i := 3) rfl; obtain ⟨a0, a1, a2, a3, a4⟩ := boxed_ex5 hSw.o.a; obtain ⟨b0, b1, b2, b3, b4⟩ := boxed_ex5 hSw.o.b; have za := heap_lt hSw.o.a; have zb := heap_lt hSw.o.b; have cF := obj_cell (obj_below HF.out hSw.b (heap_lt HF.out)) (i := 0) rfl; have yF := Nat.lt_of_lt_of_le (heap_lt HF.out) hSw.b.size; go_simp <;> with_reducible rfl
    try simp only [pu, pa, pz, ps]
    refine tk 6 (v := ?_) (hy := ?_) (h := ?_); rotate_left
    · intro wt hSw; (try dsimp only at hSw); have e3 := obj_cell hSw.o.e (i := 3) rfl; obtain ⟨a0, a1, a2, a3, a4⟩ := boxed_ex5 hSw.o.a; obtain ⟨b0, b1, b2, b3, b4⟩ := boxed_ex5 hSw.o.b; have za := heap_lt hSw.o.a; have zb := heap_lt hSw.o.b; have cF := obj_cell (obj_below HF.out hSw.b (heap_lt HF.out)) (i := 0) rfl; have yF := Nat.lt_of_lt_of_le (heap_lt HF.out) hSw.b.size; go_simp <;> with_reducible rfl
    try simp only [pu, pa, pz, ps]
    refine tk 7 (v := ?_) (hy := ?_) (h := ?_); rotate_left
    · intro _ _; go_simp <;> with_reducible rfl
    try simp only [pu, pa, pz, ps]
    refine wpAnyH_ready (rs := [4]) (by kernel_rfl) (by simp) ?_
    refine AllReadyH.cons (o := ⟨_, _, _, _, _, _⟩) rfl (fun K hK => ?_) AllReadyH.nil
    go_simp
    refine (HAa.out _ _ (HVx.out _ B0.out) (obj_below HF.out B0.out (heap_lt HF.out))).mono ?_; rintro r v1 ⟨z0, rfl, hz0, hb⟩; have hb1 := Lib.hid hb; clear hb
    go_wp2_with fail
    refine hK.out _ _ ?_ (fun hHeld => ?_)
    · (try dsimp only); exact hHeld.below hb1.out
    clear hK K
    have R1 := Lib.hid (obj_below R0.out hb1.out (heap_lt R0.out))
    have B1 := Lib.hid (B0.out.trans (hb1.out.mono B0.out.size))
    have Z0 := Lib.hid hz0
    clear hz0
    try simp only [pu, pa, pz, ps]
    refine wpAnyH_ready (rs := [8]) (by kernel_rfl) (by simp) ?_
    refine AllReadyH.cons (o := ⟨_, _, _, _, _, _⟩) rfl (fun K hK => ?_) AllReadyH.nil
    go_simp
    refine (HBb.out _ _ (HVy.out _ B1.out) (obj_below HF.out B1.out (heap_lt HF.out))).mono ?_; rintro r v2 ⟨z1, rfl, hz1, hb⟩; have hb2 := Lib.hid hb; clear hb
    go_wp2_with fail
    refine hK.out _ _ ?_ (fun hHeld => ?_)
    · (try dsimp only); exact hHeld.below hb2.out
    clear hK K
    have R2 := Lib.hid (obj_below R1.out hb2.out (heap_lt R1.out))
    have B2 := Lib.hid (B1.out.trans (hb2.out.mono B1.out.size))
    have Z1 := Lib.hid hz1
    have Z0 := Lib.hid (Z0.out.below hb2.out)
    clear hz1
    try simp only [pu, pa, pz, ps]
    refine wpAnyH_ready (rs := [9]) (by kernel_rfl) (by simp) ?_
    refine AllReadyH.cons (o := ⟨_, _, _, _, _, _⟩) rfl (fun K hK => ?_) AllReadyH.nil
    go_simp
    refine (nnf_bin _ _ _ _ _ _ HM.out Z0.out Z1.out).mono ?_; rintro r v3 ⟨z2, rfl, hz2, hb⟩; have hb3 := Lib.hid hb; clear hb
    go_wp2_with fail
    refine hK.out _ _ ?_ (fun hHeld => ?_)
    · (try dsimp only); exact hHeld.below hb3.out
    clear hK K
    have R3 := Lib.hid (obj_below R2.out hb3.out (heap_lt R2.out))
    have B3 := Lib.hid (B2.out.trans (hb3.out.mono B2.out.size))
    have Z2 := Lib.hid hz2
    clear hz2
    obtain ⟨a, k, c, hzf⟩ := ex_form Z2.out
    rw [hzf] at Z2
    rw [hzf]
    clear hzf
    obtain ⟨f0, f1, f2, f3, f4⟩ := frozen5 R3.out
    obtain ⟨g0, g1, g2, g3, g4⟩ := boxed_ex5 R3.out
    have yr := heap_lt R3.out
    try simp only [pu, pa, pz, ps]
    refine wpAnyH_ready (rs := [10]) (by kernel_rfl) (by simp) ?_
    refine AllReadyH.cons (o := ⟨_, _, _, _, _, _⟩) rfl (fun K hK => ?_) AllReadyH.nil
    go_simp
    refine hK.out _ _ ?_ (fun hHeld => ?_)
    · (try dsimp only); exact hHeld.sets (by omega) HN.out.1 HN.out.2 (by omega) _ _ _ _ _
    clear hK K
    try simp only [pu, pa, pz, ps]
    refine wpAnyH_done (by kernel_rfl) ?_ _
    clear hHeld
    go_wp2_with fail
    obtain ⟨y, hy⟩ : ∃ y, binE om Aa Bb = y := ⟨_, rfl⟩
    rw [hy] at Z2 HZ ⊢
    obtain ⟨w5, hW5, oo, HE, HB3⟩ := store_ex R3.out Z2.out HZ.out B3.out (by omega)
    rw [← hW5]
    obtain ⟨e0, e1, e2, e3, e4⟩ := boxed_ex5 oo
    refine bodyPost_ret (by simp [results, Tryd.results45, go_sem, e0, e1, e2, e3, e4]; try rfl) rfl ?_
    exact ⟨_, rfl, HE, HB3⟩
set_option maxRecDepth 100000 in
set_option maxHeartbeats 8000000 in
theorem norm_pf20 (x y Aa Bb Cc Dd : Ex) (m : Int) (hj : jun m = false) (q20 : (m == 20) = true) (g : Nat) (ty : TypeId) (hz : noZ (binE 15 (binE 14 Aa Bb) (binE 14 Cc Dd)) = true) (HAa : ∀ w v, ExV w v x → FnAt g ty w → Calls Tryd.prog 45 #[v, .bool false, .pointer (some ⟨g, 0, none⟩)] w fun r w' => ∃ z, r = .returned z ∧ ExV w' z Aa ∧ Below w.heap.size w w') (HBb : ∀ w v, ExV w v y → FnAt g ty w → Calls Tryd.prog 45 #[v, .bool false, .pointer (some ⟨g, 0, none⟩)] w fun r w' => ∃ z, r = .returned z ∧ ExV w' z Bb ∧ Below w.heap.size w w') (HCc : ∀ w v, ExV w v x → FnAt g ty w → Calls Tryd.prog 45 #[v, .bool true, .pointer (some ⟨g, 0, none⟩)] w fun r w' => ∃ z, r = .returned z ∧ ExV w' z Cc ∧ Below w.heap.size w w') (HDd : ∀ w v, ExV w v y → FnAt g ty w → Calls Tryd.prog 45 #[v, .bool true, .pointer (some ⟨g, 0, none⟩)] w fun r w' => ∃ z, r = .returned z ∧ ExV w' z Dd ∧ Below w.heap.size w w') (w : World) (v : Value) (hv : ExV w v ⟨7, 0, 0, m, [x, y]⟩) (hF : FnAt g ty w) :
    Calls Tryd.prog 45 #[v, .bool false, .pointer (some ⟨g, 0, none⟩)] w fun r w' => ∃ z, r = .returned z ∧ ExV w' z (binE 15 (binE 14 Aa Bb) (binE 14 Cc Dd)) ∧ Below w.heap.size w w' := by
  have hmI : I64 m := by obtain ⟨_, _, hi, _⟩ := hv; exact hi.2.2.2
  have HNot := Lib.hid (fun W (hb : Below w.heap.size w W) => nnf_not _ W v (hv.below hb))
  have HBoth := Lib.hid (fun W (hb : Below w.heap.size w W) => nnf_both _ W v (hv.below hb))
  have HJ := Lib.hid (fun W => nnf_junction m W)
  rw [notB_bin] at HNot
  rw [bothB_bin] at HBoth
  rw [hj] at HJ
  have HM := Lib.hid hmI
  have HZ := Lib.hid hz
  clear hj hmI hz
  have HAa := Lib.hid HAa
  have HBb := Lib.hid HBb
  have HCc := Lib.hid HCc
  have HDd := Lib.hid HDd
  obtain ⟨sl, rfl, hr, hrow⟩ := hv
  simp only at hrow
  obtain ⟨sa, sc, rfl⟩ := row_get hrow
  obtain ⟨bx, ox, ss, sn, sc2, rfl, hbx, q1, q2, d0, d1, d2, d3, d4, dV⟩ := ex_at hrow (k := 0) (x := x) rfl
  obtain ⟨_, _, ss', sn', sc2', hh, _, _, _, d5, d6, d7, d8, d9, dV'⟩ := ex_at hrow (k := 1) (x := y) rfl
  obtain ⟨rfl, rfl⟩ : bx = _ ∧ ox = _ := by injection hh with hh; injection hh with h1 h2; exact ⟨h1, h2⟩
  have hl2 : ([x, y] : List Ex).length = 2 := rfl
  rw [hl2]
  clear hh
  obtain ⟨W0, hW0⟩ : ∃ W0, W0 = (w.alloc (.cells #[.int .i64 7, .int .i64 0, .int .i64 0, .int .i64 m, .slice (some ⟨bx, ox, none⟩) 2 sc] 37)).alloc (.cells #[.int .i64 0, .int .i64 0, .int .i64 0, .int .i64 0, .slice none 0 0] 37) := ⟨_, rfl⟩
  have oE : W0.heap[w.heap.size]? = some (.cells #[.int .i64 7, .int .i64 0, .int .i64 0, .int .i64 m, .slice (some ⟨bx, ox, none⟩) 2 sc] 37) := by rw [hW0]; exact (get_past (by simp)).trans (get_last rfl)
  have oR : W0.heap[w.heap.size + 1]? = some (.cells #[.int .i64 0, .int .i64 0, .int .i64 0, .int .i64 0, .slice none 0 0] 37) := by rw [hW0]; exact get_last (by simp)
  have hbw : Below w.heap.size w W0 := by rw [hW0]; exact by (repeat' (first | (with_reducible exact Below.refl _ _) | (with_reducible assumption) | (with_reducible refine below_drewN ?_ _) | (with_reducible refine Below.alloc ?_ ?_ _) | (with_reducible refine Below.drew ?_) | (with_reducible refine Below.setCell ?_ ?_ _) | go_size))
  have HW0 := Lib.hid hW0
  have HVx := Lib.hid (fun W (hb : Below w.heap.size w W) => dV.below hb)
  have HVy := Lib.hid (fun W (hb : Below w.heap.size w W) => dV'.below hb)
  obtain ⟨yo, yt, yn, ym, yl⟩ := y
  obtain ⟨xo, xt, xn, xm, xl⟩ := x
  replace d0 : w.cell? ⟨bx, ox, none⟩ = some (.int .i64 xo) := by simpa using d0
  replace d1 : w.cell? ⟨bx, ox + 1, none⟩ = some (.int .i64 xt) := by simpa using d1
  replace d2 : w.cell? ⟨bx, ox + 2, none⟩ = some (.int .i64 xn) := by simpa using d2
  replace d3 : w.cell? ⟨bx, ox + 3, none⟩ = some (.int .i64 xm) := by simpa using d3
  replace d4 : w.cell? ⟨bx, ox + 4, none⟩ = some (.slice ss sn sc2) := by simpa using d4
  replace d5 : w.cell? ⟨bx, ox + 5, none⟩ = some (.int .i64 yo) := by simpa using d5
  replace d6 : w.cell? ⟨bx, ox + 5 + 1, none⟩ = some (.int .i64 yt) := by simpa using d6
  replace d7 : w.cell? ⟨bx, ox + 5 + 2, none⟩ = some (.int .i64 yn) := by simpa using d7
  replace d8 : w.cell? ⟨bx, ox + 5 + 3, none⟩ = some (.int .i64 ym) := by simpa using d8
  replace d9 : w.cell? ⟨bx, ox + 5 + 4, none⟩ = some (.slice ss' sn' sc2') := by simpa using d9
  have D := Lib.hid (And.intro d0 (And.intro d1 (And.intro d2 (And.intro d3 (And.intro d4 (And.intro d5 (And.intro d6 (And.intro d7 (And.intro d8 d9)))))))))
  have HBX := Lib.hid hbx
  have HF := Lib.hid hF
  have HOE := Lib.hid oE
  have HOR := Lib.hid oR
  have HB0 := Lib.hid hbw
  have mixed : Tryd.prog.follows .mixedOrders = true := by kernel_rfl
  clear hW0 oE oR hbw dV dV' hr hrow q1 q2 hF d0 d1 d2 d3 d4 d5 d6 d7 d8 d9 hbx
  rw [hl2] at HNot HBoth
  clear hl2
  go_enter Tryd.func45, Tryd.ntmps45
  go_wp2_with fail
  refine (HNot.out _ (by (repeat' (first | (with_reducible exact Below.refl _ _) | (with_reducible assumption) | (with_reducible refine below_drewN ?_ _) | (with_reducible refine Below.alloc ?_ ?_ _) | (with_reducible refine Below.drew ?_) | (with_reducible refine Below.setCell ?_ ?_ _) | go_size)))).mono ?_; rintro r w1 ⟨rfl, hb1⟩
  rw [← HW0.out] at hb1
  have E1 := Lib.hid (obj_below HOE.out hb1 (heap_lt HOE.out))
  have R1 := Lib.hid (obj_below HOR.out hb1 (heap_lt HOR.out))
  have B1 := Lib.hid (HB0.out.trans (hb1.mono HB0.out.size))
  clear hb1
  obtain ⟨e0, e1, e2, e3, e4⟩ := boxed_ex5 E1.out
  have ye := heap_lt E1.out
  go_wp2_with fail
  refine (HBoth.out _ B1.out).mono ?_; rintro r w2 ⟨rfl, hb2⟩
  have E2 := Lib.hid (obj_below E1.out hb2 (heap_lt E1.out))
  have R2 := Lib.hid (obj_below R1.out hb2 (heap_lt R1.out))
  have B2 := Lib.hid (B1.out.trans (hb2.mono B1.out.size))
  clear e0 e1 e2 e3 e4 ye hb2
  obtain ⟨e0, e1, e2, e3, e4⟩ := boxed_ex5 E2.out
  have ye := heap_lt E2.out
  obtain ⟨d0, d1, d2, d3, d4, d5, d6, d7, d8, d9⟩ := D.out
  have hbx := HBX.out
  have c0 : w2.cell? ⟨bx, ox, none⟩ = some (.int .i64 xo) := (B2.out.cell (p := ⟨bx, ox, none⟩) hbx).trans d0
  have c1 : w2.cell? ⟨bx, ox + 1, none⟩ = some (.int .i64 xt) := (B2.out.cell (p := ⟨bx, ox + 1, none⟩) hbx).trans d1
  have c2 : w2.cell? ⟨bx, ox + 2, none⟩ = some (.int .i64 xn) := (B2.out.cell (p := ⟨bx, ox + 2, none⟩) hbx).trans d2
  have c3 : w2.cell? ⟨bx, ox + 3, none⟩ = some (.int .i64 xm) := (B2.out.cell (p := ⟨bx, ox + 3, none⟩) hbx).trans d3
  have c4 : w2.cell? ⟨bx, ox + 4, none⟩ = some (.slice ss sn sc2) := (B2.out.cell (p := ⟨bx, ox + 4, none⟩) hbx).trans d4
  have c5 : w2.cell? ⟨bx, ox + 5, none⟩ = some (.int .i64 yo) := (B2.out.cell (p := ⟨bx, ox + 5, none⟩) hbx).trans d5
  have c6 : w2.cell? ⟨bx, ox + 5 + 1, none⟩ = some (.int .i64 yt) := (B2.out.cell (p := ⟨bx, ox + 5 + 1, none⟩) hbx).trans d6
  have c7 : w2.cell? ⟨bx, ox + 5 + 2, none⟩ = some (.int .i64 yn) := (B2.out.cell (p := ⟨bx, ox + 5 + 2, none⟩) hbx).trans d7
  have c8 : w2.cell? ⟨bx, ox + 5 + 3, none⟩ = some (.int .i64 ym) := (B2.out.cell (p := ⟨bx, ox + 5 + 3, none⟩) hbx).trans d8
  have c9 : w2.cell? ⟨bx, ox + 5 + 4, none⟩ = some (.slice ss' sn' sc2') := (B2.out.cell (p := ⟨bx, ox + 5 + 4, none⟩) hbx).trans d9
  have yb : bx < w2.heap.size := Nat.lt_of_lt_of_le hbx B2.out.size
  clear d0 d1 d2 d3 d4 d5 d6 d7 d8 d9 hbx
  go_wp2_with fail
  have qq0 := fun wt (h : Below w2.heap.size w2 wt) => cellB h e0 ye
  have qq1 := fun wt (h : Below w2.heap.size w2 wt) => cellB h e1 ye
  have qq2 := fun wt (h : Below w2.heap.size w2 wt) => cellB h e2 ye
  have qq3 := fun wt (h : Below w2.heap.size w2 wt) => cellB h e3 ye
  have qq4 := fun wt (h : Below w2.heap.size w2 wt) => cellB h e4 ye
  have qq5 := fun wt (h : Below w2.heap.size w2 wt) => cellB h c0 yb
  have qq6 := fun wt (h : Below w2.heap.size w2 wt) => cellB h c1 yb
  have qq7 := fun wt (h : Below w2.heap.size w2 wt) => cellB h c2 yb
  have qq8 := fun wt (h : Below w2.heap.size w2 wt) => cellB h c3 yb
  have qq9 := fun wt (h : Below w2.heap.size w2 wt) => cellB h c4 yb
  have qq10 := fun wt (h : Below w2.heap.size w2 wt) => cellB h c5 yb
  have qq11 := fun wt (h : Below w2.heap.size w2 wt) => cellB h c6 yb
  have qq12 := fun wt (h : Below w2.heap.size w2 wt) => cellB h c7 yb
  have qq13 := fun wt (h : Below w2.heap.size w2 wt) => cellB h c8 yb
  have qq14 := fun wt (h : Below w2.heap.size w2 wt) => cellB h c9 yb
  refine wp_region_held_drew (S := (fun w' => Below w2.heap.size w2 w')) (by kernel_rfl) ?_ (fun hHeld => ?_)
  · (try dsimp only); first | assumption | exact Below.alloc hHeld hHeld.size _ | exact (Below.refl _ _).drew | exact Below.drew (Below.refl _ _) | exact Below_drewN _ _ _ | exact Below.refl _ _
  refine tk 0 (v := ?_) (hy := ?_) (h := ?_); rotate_left
  · intro _ _; go_simp <;> with_reducible rfl
  try simp only [pu, pa, pz, ps]
  refine tk 1 (v := ?_) (hy := ?_) (h := ?_); rotate_left
  · intro wt hSw; (try dsimp only at hSw); go_simp <;> with_reducible rfl
  try simp only [pu, pa, pz, ps]
  refine tk 2 (v := ?_) (hy := ?_) (h := ?_); rotate_left
  · intro _ _; go_simp <;> with_reducible rfl
  try simp only [pu, pa, pz, ps]
  refine tk 3 (v := ?_) (hy := ?_) (h := ?_); rotate_left
  · intro wt hSw; (try dsimp only at hSw); go_simp <;> with_reducible rfl
  try simp only [pu, pa, pz, ps]
  refine tk 4 (v := ?_) (hy := ?_) (h := ?_); rotate_left
  · intro _ _; go_simp <;> with_reducible rfl
  try simp only [pu, pa, pz, ps]
  refine tk 5 (v := ?_) (hy := ?_) (h := ?_); rotate_left
  · intro wt hSw; (try dsimp only at hSw); go_simp <;> with_reducible rfl
  try simp only [pu, pa, pz, ps]
  refine tk 6 (v := ?_) (hy := ?_) (h := ?_); rotate_left
  · intro _ _; go_simp <;> with_reducible rfl
  try simp only [pu, pa, pz, ps]
  refine tk 7 (v := ?_) (hy := ?_) (h := ?_); rotate_left
  · intro wt hSw; (try dsimp only at hSw); go_simp <;> with_reducible rfl
  try simp only [pu, pa, pz, ps]
  refine wpAnyH_ready (rs := [8, 9]) (by kernel_rfl) (by simp) ?_
  refine AllReadyH.cons (o := ⟨_, _, _, _, _, _⟩) rfl (fun K hK => ?_) (AllReadyH.cons (o := ⟨_, _, _, _, _, _⟩) rfl (fun K hK => ?_) (AllReadyH.nil))
  go_simp
  refine hK.out _ _ ?_ (fun hHeld => ?_)
  · (try dsimp only); first | assumption | exact Below.alloc hHeld hHeld.size _ | exact (Below.refl _ _).drew | exact Below.drew (Below.refl _ _) | exact Below_drewN _ _ _ | exact Below.refl _ _
  clear hK K
  try simp only [pu, pa, pz, ps]
  refine wpAnyH_ready (rs := [9]) (by kernel_rfl) (by simp) ?_
  refine AllReadyH.cons (o := ⟨_, _, _, _, _, _⟩) rfl (fun K hK => ?_) AllReadyH.nil
  go_simp
  refine hK.out _ _ ?_ (fun hHeld => ?_)
  · (try dsimp only); first | assumption | exact Below.alloc hHeld hHeld.size _ | exact (Below.refl _ _).drew | exact Below.drew (Below.refl _ _) | exact Below_drewN _ _ _ | exact Below.refl _ _
  clear hK K
  try simp only [pu, pa, pz, ps]
  refine wpAnyH_ready (rs := [10]) (by kernel_rfl) (by simp) ?_
  refine AllReadyH.cons (o := ⟨_, _, _, _, _, _⟩) rfl (fun K hK => ?_) AllReadyH.nil
  go_simp
  refine hK.out _ _ ?_ (fun hHeld => ?_)
  · (try dsimp only); exact by (repeat' (first | (with_reducible exact Below.refl _ _) | (with_reducible assumption) | (with_reducible refine below_drewN ?_ _) | (with_reducible refine Below.alloc ?_ ?_ _) | (with_reducible refine Below.drew ?_) | (with_reducible refine Below.setCell ?_ ?_ _) | go_size))
  clear hK K
  try simp only [pu, pa, pz, ps]
  refine wpAnyH_ready (rs := [11]) (by kernel_rfl) (by simp) ?_
  refine AllReadyH.cons (o := ⟨_, _, _, _, _, _⟩) rfl (fun K hK => ?_) AllReadyH.nil
  go_simp
  refine hK.out _ _ ?_ (fun hHeld => ?_)
  · (try dsimp only); exact by (repeat' (first | (with_reducible exact Below.refl _ _) | (with_reducible assumption) | (with_reducible refine below_drewN ?_ _) | (with_reducible refine Below.alloc ?_ ?_ _) | (with_reducible refine Below.drew ?_) | (with_reducible refine Below.setCell ?_ ?_ _) | go_size))
  clear hK K
  try simp only [pu, pa, pz, ps]
  refine wpAnyH_done (by kernel_rfl) ?_ _
  have OA := Lib.hid (show (((w2.alloc (.cells #[.int .i64 xo, .int .i64 xt, .int .i64 xn, .int .i64 xm, .slice ss sn sc2] 37)).alloc (.cells #[.int .i64 yo, .int .i64 yt, .int .i64 yn, .int .i64 ym, .slice ss' sn' sc2'] 37)).drew).heap[w2.heap.size]? = some (.cells #[.int .i64 xo, .int .i64 xt, .int .i64 xn, .int .i64 xm, .slice ss sn sc2] 37) from (get_past (by simp)).trans (get_last rfl))
  have OB := Lib.hid (show (((w2.alloc (.cells #[.int .i64 xo, .int .i64 xt, .int .i64 xn, .int .i64 xm, .slice ss sn sc2] 37)).alloc (.cells #[.int .i64 yo, .int .i64 yt, .int .i64 yn, .int .i64 ym, .slice ss' sn' sc2'] 37)).drew).heap[w2.heap.size + 1]? = some (.cells #[.int .i64 yo, .int .i64 yt, .int .i64 yn, .int .i64 ym, .slice ss' sn' sc2'] 37) from get_last (by simp))
  have hb5 : Below w2.heap.size w2 (((w2.alloc (.cells #[.int .i64 xo, .int .i64 xt, .int .i64 xn, .int .i64 xm, .slice ss sn sc2] 37)).alloc (.cells #[.int .i64 yo, .int .i64 yt, .int .i64 yn, .int .i64 ym, .slice ss' sn' sc2'] 37)).drew) := by (repeat' (first | (with_reducible exact Below.refl _ _) | (with_reducible assumption) | (with_reducible refine below_drewN ?_ _) | (with_reducible refine Below.alloc ?_ ?_ _) | (with_reducible refine Below.drew ?_) | (with_reducible refine Below.setCell ?_ ?_ _) | go_size))
  generalize hW5 : ((w2.alloc (.cells #[.int .i64 xo, .int .i64 xt, .int .i64 xn, .int .i64 xm, .slice ss sn sc2] 37)).alloc (.cells #[.int .i64 yo, .int .i64 yt, .int .i64 yn, .int .i64 ym, .slice ss' sn' sc2'] 37)).drew = w5 at *
  clear hHeld hW5 e0 e1 e2 e3 e4 ye yb c0 c1 c2 c3 c4 c5 c6 c7 c8 c9
  have E5 := Lib.hid (obj_below E2.out hb5 (heap_lt E2.out))
  have R5 := Lib.hid (obj_below R2.out hb5 (heap_lt R2.out))
  have B5 := Lib.hid (B2.out.trans (hb5.mono B2.out.size))
  have n2 : w.heap.size + 1 ≠ w2.heap.size := by have := heap_lt R2.out; omega
  have n3 : w.heap.size + 1 ≠ w2.heap.size + 1 := by have := heap_lt R2.out; omega
  have HN := Lib.hid (And.intro n2 n3)
  clear n2 n3 hb5 E2 R2 B2 HOE HOR HB0 HW0 E1 R1 B1
  generalize w2.heap.size + 1 = qb at *
  generalize w2.heap.size = qa at *
  rotate_left
  go_simp
  refine hK.out _ _ ?_ (fun hHeld => ?_)
  · (try dsimp only); first | assumption | exact Below.alloc hHeld hHeld.size _ | exact (Below.refl _ _).drew | exact Below.drew (Below.refl _ _) | exact Below_drewN _ _ _ | exact Below.refl _ _
  clear hK K
  try simp only [pu, pa, pz, ps]
  refine wpAnyH_ready (rs := [8]) (by kernel_rfl) (by simp) ?_
  refine AllReadyH.cons (o := ⟨_, _, _, _, _, _⟩) rfl (fun K hK => ?_) AllReadyH.nil
  go_simp
  refine hK.out _ _ ?_ (fun hHeld => ?_)
  · (try dsimp only); first | assumption | exact Below.alloc hHeld hHeld.size _ | exact (Below.refl _ _).drew | exact Below.drew (Below.refl _ _) | exact Below_drewN _ _ _ | exact Below.refl _ _
  clear hK K
  try simp only [pu, pa, pz, ps]
  refine wpAnyH_ready (rs := [10]) (by kernel_rfl) (by simp) ?_
  refine AllReadyH.cons (o := ⟨_, _, _, _, _, _⟩) rfl (fun K hK => ?_) AllReadyH.nil
  go_simp
  refine hK.out _ _ ?_ (fun hHeld => ?_)
  · (try dsimp only); exact by (repeat' (first | (with_reducible exact Below.refl _ _) | (with_reducible assumption) | (with_reducible refine below_drewN ?_ _) | (with_reducible refine Below.alloc ?_ ?_ _) | (with_reducible refine Below.drew ?_) | (with_reducible refine Below.setCell ?_ ?_ _) | go_size))
  clear hK K
  try simp only [pu, pa, pz, ps]
  refine wpAnyH_ready (rs := [11]) (by kernel_rfl) (by simp) ?_
  refine AllReadyH.cons (o := ⟨_, _, _, _, _, _⟩) rfl (fun K hK => ?_) AllReadyH.nil
  go_simp
  refine hK.out _ _ ?_ (fun hHeld => ?_)
  · (try dsimp only); exact by (repeat' (first | (with_reducible exact Below.refl _ _) | (with_reducible assumption) | (with_reducible refine below_drewN ?_ _) | (with_reducible refine Below.alloc ?_ ?_ _) | (with_reducible refine Below.drew ?_) | (with_reducible refine Below.setCell ?_ ?_ _) | go_size))
  clear hK K
  try simp only [pu, pa, pz, ps]
  refine wpAnyH_done (by kernel_rfl) ?_ _
  have OB := Lib.hid (show (((w2.alloc (.cells #[.int .i64 yo, .int .i64 yt, .int .i64 yn, .int .i64 ym, .slice ss' sn' sc2'] 37)).alloc (.cells #[.int .i64 xo, .int .i64 xt, .int .i64 xn, .int .i64 xm, .slice ss sn sc2] 37)).drew).heap[w2.heap.size]? = some (.cells #[.int .i64 yo, .int .i64 yt, .int .i64 yn, .int .i64 ym, .slice ss' sn' sc2'] 37) from (get_past (by simp)).trans (get_last rfl))
  have OA := Lib.hid (show (((w2.alloc (.cells #[.int .i64 yo, .int .i64 yt, .int .i64 yn, .int .i64 ym, .slice ss' sn' sc2'] 37)).alloc (.cells #[.int .i64 xo, .int .i64 xt, .int .i64 xn, .int .i64 xm, .slice ss sn sc2] 37)).drew).heap[w2.heap.size + 1]? = some (.cells #[.int .i64 xo, .int .i64 xt, .int .i64 xn, .int .i64 xm, .slice ss sn sc2] 37) from get_last (by simp))
  have hb5 : Below w2.heap.size w2 (((w2.alloc (.cells #[.int .i64 yo, .int .i64 yt, .int .i64 yn, .int .i64 ym, .slice ss' sn' sc2'] 37)).alloc (.cells #[.int .i64 xo, .int .i64 xt, .int .i64 xn, .int .i64 xm, .slice ss sn sc2] 37)).drew) := by (repeat' (first | (with_reducible exact Below.refl _ _) | (with_reducible assumption) | (with_reducible refine below_drewN ?_ _) | (with_reducible refine Below.alloc ?_ ?_ _) | (with_reducible refine Below.drew ?_) | (with_reducible refine Below.setCell ?_ ?_ _) | go_size))
  generalize hW5 : ((w2.alloc (.cells #[.int .i64 yo, .int .i64 yt, .int .i64 yn, .int .i64 ym, .slice ss' sn' sc2'] 37)).alloc (.cells #[.int .i64 xo, .int .i64 xt, .int .i64 xn, .int .i64 xm, .slice ss sn sc2] 37)).drew = w5 at *
  clear hHeld hW5 e0 e1 e2 e3 e4 ye yb c0 c1 c2 c3 c4 c5 c6 c7 c8 c9
  have E5 := Lib.hid (obj_below E2.out hb5 (heap_lt E2.out))
  have R5 := Lib.hid (obj_below R2.out hb5 (heap_lt R2.out))
  have B5 := Lib.hid (B2.out.trans (hb5.mono B2.out.size))
  have n2 : w.heap.size + 1 ≠ w2.heap.size + 1 := by have := heap_lt R2.out; omega
  have n3 : w.heap.size + 1 ≠ w2.heap.size := by have := heap_lt R2.out; omega
  have HN := Lib.hid (And.intro n2 n3)
  clear n2 n3 hb5 E2 R2 B2 HOE HOR HB0 HW0 E1 R1 B1
  generalize w2.heap.size + 1 = qa at *
  generalize w2.heap.size = qb at *
  all_goals
    have e3 := obj_cell E5.out (i := 3) rfl
    have ye := heap_lt E5.out
    go_wp2_with fail
    refine (HJ.out _).mono ?_; rintro r v0 ⟨rfl, hv0⟩; rw [hv0]; clear hv0
    go_wp2_with fail
    clear e3 ye
    have R0 := Lib.hid (show w5.drew.heap[w.heap.size + 1]? = _ from R5.out)
    have B0 := Lib.hid (show Below w.heap.size w w5.drew from B5.out.drew)
    have hT0 : Kept w.heap.size qa qb _ _ _ w w5.drew := ⟨⟨E5.out, OA.out, OB.out⟩, B0.out⟩
    clear E5 OA OB R5 B5
    refine wp_region_held_drew (S := (fun w' => Kept w.heap.size qa qb (.cells #[.int .i64 7, .int .i64 0, .int .i64 0, .int .i64 m, .slice (some ⟨bx, ox, none⟩) 2 sc] 37) (.cells #[.int .i64 xo, .int .i64 xt, .int .i64 xn, .int .i64 xm, .slice ss sn sc2] 37) (.cells #[.int .i64 yo, .int .i64 yt, .int .i64 yn, .int .i64 ym, .slice ss' sn' sc2'] 37) w w')) (by kernel_rfl) ?_ (fun hHeld => ?_)
    · (try dsimp only); exact hT0
    refine tk 0 (v := ?_) (hy := ?_) (h := ?_); rotate_left
    · intro wt hSw; (try dsimp only at hSw); have e3 := obj_cell hSw.o.e (i := 3) rfl; obtain ⟨a0, a1, a2, a3, a4⟩ := boxed_ex5 hSw.o.a; obtain ⟨b0, b1, b2, b3, b4⟩ := boxed_ex5 hSw.o.b; have za := heap_lt hSw.o.a; have zb := heap_lt hSw.o.b; have cF := obj_cell (obj_below HF.out hSw.b (heap_lt HF.out)) (i := 0) rfl; have yF := Nat.lt_of_lt_of_le (heap_lt HF.out) hSw.b.size; go_simp <;> with_reducible rfl
    try simp only [pu, pa, pz, ps]
    refine tk 1 (v := ?_) (hy := ?_) (h := ?_); rotate_left
    · intro wt hSw; (try dsimp only at hSw); have e3 := obj_cell hSw.o.e (i := 3) rfl; obtain ⟨a0, a1, a2, a3, a4⟩ := boxed_ex5 hSw.o.a; obtain ⟨b0, b1, b2, b3, b4⟩ := boxed_ex5 hSw.o.b; have za := heap_lt hSw.o.a; have zb := heap_lt hSw.o.b; have cF := obj_cell (obj_below HF.out hSw.b (heap_lt HF.out)) (i := 0) rfl; have yF := Nat.lt_of_lt_of_le (heap_lt HF.out) hSw.b.size; go_simp <;> with_reducible rfl
    try simp only [pu, pa, pz, ps]
    refine tk 3 (v := ?_) (hy := ?_) (h := ?_); rotate_left
    · intro wt hSw; (try dsimp only at hSw); have e3 := obj_cell hSw.o.e (i := 3) rfl; obtain ⟨a0, a1, a2, a3, a4⟩ := boxed_ex5 hSw.o.a; obtain ⟨b0, b1, b2, b3, b4⟩ := boxed_ex5 hSw.o.b; have za := heap_lt hSw.o.a; have zb := heap_lt hSw.o.b; have cF := obj_cell (obj_below HF.out hSw.b (heap_lt HF.out)) (i := 0) rfl; have yF := Nat.lt_of_lt_of_le (heap_lt HF.out) hSw.b.size; go_simp <;> with_reducible rfl
    try simp only [pu, pa, pz, ps]
    refine tk 4 (v := ?_) (hy := ?_) (h := ?_); rotate_left
    · intro wt hSw; (try dsimp only at hSw); have e3 := obj_cell hSw.o.e (i := 3) rfl; obtain ⟨a0, a1, a2, a3, a4⟩ := boxed_ex5 hSw.o.a; obtain ⟨b0, b1, b2, b3, b4⟩ := boxed_ex5 hSw.o.b; have za := heap_lt hSw.o.a; have zb := heap_lt hSw.o.b; have cF := obj_cell (obj_below HF.out hSw.b (heap_lt HF.out)) (i := 0) rfl; have yF := Nat.lt_of_lt_of_le (heap_lt HF.out) hSw.b.size; go_simp <;> with_reducible rfl
    try simp only [pu, pa, pz, ps]
    refine tk 5 (v := ?_) (hy := ?_) (h := ?_); rotate_left
    · intro _ _; go_simp <;> with_reducible rfl
    try simp only [pu, pa, pz, ps]
    refine tk 8 (v := ?_) (hy := ?_) (h := ?_); rotate_left
    · intro wt hSw; (try dsimp only at hSw); have e3 := obj_cell hSw.o.e (i := 3) rfl; obtain ⟨a0, a1, a2, a3, a4⟩ := boxed_ex5 hSw.o.a; obtain ⟨b0, b1, b2, b3, b4⟩ := boxed_ex5 hSw.o.b; have za := heap_lt hSw.o.a; have zb := heap_lt hSw.o.b; have cF := obj_cell (obj_below HF.out hSw.b (heap_lt HF.out)) (i := 0) rfl; have yF := Nat.lt_of_lt_of_le (heap_lt HF.out) hSw.b.size; go_simp <;> with_reducible rfl
    try simp only [pu, pa, pz, ps]
    refine tk 9 (v := ?_) (hy := ?_) (h := ?_); rotate_left
    · intro wt hSw; (try dsimp only at hSw); have e3 := obj_cell hSw.o.e (i := 3) rfl; obtain ⟨a0, a1, a2, a3, a4⟩ := boxed_ex5 hSw.o.a; obtain ⟨b0, b1, b2, b3, b4⟩ := boxed_ex5 hSw.o.b; have za := heap_lt hSw.o.a; have zb := heap_lt hSw.o.b; have cF := obj_cell (obj_below HF.out hSw.b (heap_lt HF.out)) (i := 0) rfl; have yF := Nat.lt_of_lt_of_le (heap_lt HF.out) hSw.b.size; go_simp <;> with_reducible rfl
    try simp only [pu, pa, pz, ps]
    refine tk 11 (v := ?_) (hy := ?_) (h := ?_); rotate_left
    · intro wt hSw; (try dsimp only at hSw); have e3 := obj_cell hSw.o.e (i := 3) rfl; obtain ⟨a0, a1, a2, a3, a4⟩ := boxed_ex5 hSw.o.a; obtain ⟨b0, b1, b2, b3, b4⟩ := boxed_ex5 hSw.o.b; have za := heap_lt hSw.o.a; have zb := heap_lt hSw.o.b; have cF := obj_cell (obj_below HF.out hSw.b (heap_lt HF.out)) (i := 0) rfl; have yF := Nat.lt_of_lt_of_le (heap_lt HF.out) hSw.b.size; go_simp <;> with_reducible rfl
    try simp only [pu, pa, pz, ps]
    refine tk 12 (v := ?_) (hy := ?_) (h := ?_); rotate_left
    · intro wt hSw; (try dsimp only at hSw); have e3 := obj_cell hSw.o.e (i := 3) rfl; obtain ⟨a0, a1, a2, a3, a4⟩ := boxed_ex5 hSw.o.a; obtain ⟨b0, b1, b2, b3, b4⟩ := boxed_ex5 hSw.o.b; have za := heap_lt hSw.o.a; have zb := heap_lt hSw.o.b; have cF := obj_cell (obj_below HF.out hSw.b (heap_lt HF.out)) (i := 0) rfl; have yF := Nat.lt_of_lt_of_le (heap_lt HF.out) hSw.b.size; go_simp <;> with_reducible rfl
    try simp only [pu, pa, pz, ps]
    refine tk 13 (v := ?_) (hy := ?_) (h := ?_); rotate_left
    · intro _ _; go_simp <;> with_reducible rfl
    try simp only [pu, pa, pz, ps]
    refine tk 14 (v := ?_) (hy := ?_) (h := ?_); rotate_left
    · intro _ _; go_simp <;> with_reducible rfl
    try simp only [pu, pa, pz, ps]
    refine wpAnyH_ready (rs := [2]) (by kernel_rfl) (by simp) ?_
    refine AllReadyH.cons (o := ⟨_, _, _, _, _, _⟩) rfl (fun K hK => ?_) AllReadyH.nil
    go_simp
    refine (HAa.out _ _ (HVx.out _ B0.out) (obj_below HF.out B0.out (heap_lt HF.out))).mono ?_; rintro r v1 ⟨z0, rfl, hz0, hb⟩; have hb1 := Lib.hid hb; clear hb
    go_wp2_with fail
    refine hK.out _ _ ?_ (fun hHeld => ?_)
    · (try dsimp only); exact hHeld.below hb1.out
    clear hK K
    have R1 := Lib.hid (obj_below R0.out hb1.out (heap_lt R0.out))
    have B1 := Lib.hid (B0.out.trans (hb1.out.mono B0.out.size))
    have Z0 := Lib.hid hz0
    clear hz0
    try simp only [pu, pa, pz, ps]
    refine wpAnyH_ready (rs := [6]) (by kernel_rfl) (by simp) ?_
    refine AllReadyH.cons (o := ⟨_, _, _, _, _, _⟩) rfl (fun K hK => ?_) AllReadyH.nil
    go_simp
    refine (HBb.out _ _ (HVy.out _ B1.out) (obj_below HF.out B1.out (heap_lt HF.out))).mono ?_; rintro r v2 ⟨z1, rfl, hz1, hb⟩; have hb2 := Lib.hid hb; clear hb
    go_wp2_with fail
    refine hK.out _ _ ?_ (fun hHeld => ?_)
    · (try dsimp only); exact hHeld.below hb2.out
    clear hK K
    have R2 := Lib.hid (obj_below R1.out hb2.out (heap_lt R1.out))
    have B2 := Lib.hid (B1.out.trans (hb2.out.mono B1.out.size))
    have Z1 := Lib.hid hz1
    have Z0 := Lib.hid (Z0.out.below hb2.out)
    clear hz1
    try simp only [pu, pa, pz, ps]
    refine wpAnyH_ready (rs := [7]) (by kernel_rfl) (by simp) ?_
    refine AllReadyH.cons (o := ⟨_, _, _, _, _, _⟩) rfl (fun K hK => ?_) AllReadyH.nil
    go_simp
    refine (nnf_bin 14 _ _ _ _ _ (by unfold I64; omega) Z0.out Z1.out).mono ?_; rintro r v3 ⟨z2, rfl, hz2, hb⟩; have hb3 := Lib.hid hb; clear hb
    go_wp2_with fail
    refine hK.out _ _ ?_ (fun hHeld => ?_)
    · (try dsimp only); exact hHeld.below hb3.out
    clear hK K
    have R3 := Lib.hid (obj_below R2.out hb3.out (heap_lt R2.out))
    have B3 := Lib.hid (B2.out.trans (hb3.out.mono B2.out.size))
    have Z2 := Lib.hid hz2
    clear hz2
    try simp only [pu, pa, pz, ps]
    refine wpAnyH_ready (rs := [10]) (by kernel_rfl) (by simp) ?_
    refine AllReadyH.cons (o := ⟨_, _, _, _, _, _⟩) rfl (fun K hK => ?_) AllReadyH.nil
    go_simp
    refine (HCc.out _ _ (HVx.out _ B3.out) (obj_below HF.out B3.out (heap_lt HF.out))).mono ?_; rintro r v4 ⟨z3, rfl, hz3, hb⟩; have hb4 := Lib.hid hb; clear hb
    go_wp2_with fail
    refine hK.out _ _ ?_ (fun hHeld => ?_)
    · (try dsimp only); exact hHeld.below hb4.out
    clear hK K
    have R4 := Lib.hid (obj_below R3.out hb4.out (heap_lt R3.out))
    have B4 := Lib.hid (B3.out.trans (hb4.out.mono B3.out.size))
    have Z3 := Lib.hid hz3
    have Z2 := Lib.hid (Z2.out.below hb4.out)
    clear hz3
    try simp only [pu, pa, pz, ps]
    refine wpAnyH_ready (rs := [15]) (by kernel_rfl) (by simp) ?_
    refine AllReadyH.cons (o := ⟨_, _, _, _, _, _⟩) rfl (fun K hK => ?_) AllReadyH.nil
    go_simp
    refine (HDd.out _ _ (HVy.out _ B4.out) (obj_below HF.out B4.out (heap_lt HF.out))).mono ?_; rintro r v5 ⟨z4, rfl, hz4, hb⟩; have hb5 := Lib.hid hb; clear hb
    go_wp2_with fail
    refine hK.out _ _ ?_ (fun hHeld => ?_)
    · (try dsimp only); exact hHeld.below hb5.out
    clear hK K
    have R5 := Lib.hid (obj_below R4.out hb5.out (heap_lt R4.out))
    have B5 := Lib.hid (B4.out.trans (hb5.out.mono B4.out.size))
    have Z4 := Lib.hid hz4
    have Z2 := Lib.hid (Z2.out.below hb5.out)
    have Z3 := Lib.hid (Z3.out.below hb5.out)
    clear hz4
    try simp only [pu, pa, pz, ps]
    refine wpAnyH_ready (rs := [16]) (by kernel_rfl) (by simp) ?_
    refine AllReadyH.cons (o := ⟨_, _, _, _, _, _⟩) rfl (fun K hK => ?_) AllReadyH.nil
    go_simp
    refine (nnf_bin 14 _ _ _ _ _ (by unfold I64; omega) Z3.out Z4.out).mono ?_; rintro r v6 ⟨z5, rfl, hz5, hb⟩; have hb6 := Lib.hid hb; clear hb
    go_wp2_with fail
    refine hK.out _ _ ?_ (fun hHeld => ?_)
    · (try dsimp only); exact hHeld.below hb6.out
    clear hK K
    have R6 := Lib.hid (obj_below R5.out hb6.out (heap_lt R5.out))
    have B6 := Lib.hid (B5.out.trans (hb6.out.mono B5.out.size))
    have Z5 := Lib.hid hz5
    have Z2 := Lib.hid (Z2.out.below hb6.out)
    clear hz5
    try simp only [pu, pa, pz, ps]
    refine wpAnyH_ready (rs := [17]) (by kernel_rfl) (by simp) ?_
    refine AllReadyH.cons (o := ⟨_, _, _, _, _, _⟩) rfl (fun K hK => ?_) AllReadyH.nil
    go_simp
    refine (nnf_bin 15 _ _ _ _ _ (by unfold I64; omega) Z2.out Z5.out).mono ?_; rintro r v7 ⟨z6, rfl, hz6, hb⟩; have hb7 := Lib.hid hb; clear hb
    go_wp2_with fail
    refine hK.out _ _ ?_ (fun hHeld => ?_)
    · (try dsimp only); exact hHeld.below hb7.out
    clear hK K
    have R7 := Lib.hid (obj_below R6.out hb7.out (heap_lt R6.out))
    have B7 := Lib.hid (B6.out.trans (hb7.out.mono B6.out.size))
    have Z6 := Lib.hid hz6
    clear hz6
    obtain ⟨a, k, c, hzf⟩ := ex_form Z6.out
    rw [hzf] at Z6
    rw [hzf]
    clear hzf
    obtain ⟨f0, f1, f2, f3, f4⟩ := frozen5 R7.out
    obtain ⟨g0, g1, g2, g3, g4⟩ := boxed_ex5 R7.out
    have yr := heap_lt R7.out
    try simp only [pu, pa, pz, ps]
    refine wpAnyH_ready (rs := [18]) (by kernel_rfl) (by simp) ?_
    refine AllReadyH.cons (o := ⟨_, _, _, _, _, _⟩) rfl (fun K hK => ?_) AllReadyH.nil
    go_simp
    refine hK.out _ _ ?_ (fun hHeld => ?_)
    · (try dsimp only); exact hHeld.sets (by omega) HN.out.1 HN.out.2 (by omega) _ _ _ _ _
    clear hK K
    try simp only [pu, pa, pz, ps]
    refine wpAnyH_done (by kernel_rfl) ?_ _
    clear hHeld
    go_wp2_with fail
    obtain ⟨y, hy⟩ : ∃ y, binE 15 (binE 14 Aa Bb) (binE 14 Cc Dd) = y := ⟨_, rfl⟩
    rw [hy] at Z6 HZ ⊢
    obtain ⟨w5, hW5, oo, HE, HB3⟩ := store_ex R7.out Z6.out HZ.out B7.out (by omega)
    rw [← hW5]
    obtain ⟨e0, e1, e2, e3, e4⟩ := boxed_ex5 oo
    refine bodyPost_ret (by simp [results, Tryd.results45, go_sem, e0, e1, e2, e3, e4]; try rfl) rfl ?_
    exact ⟨_, rfl, HE, HB3⟩
set_option maxRecDepth 100000 in
set_option maxHeartbeats 8000000 in
theorem norm_pf (x y Aa Bb Cc Dd : Ex) (m : Int) (hj : jun m = false) (q20 : (m == 20) = false) (g : Nat) (ty : TypeId) (hz : noZ (binE 15 (binE 14 Aa Bb) (binE 14 Cc Dd)) = true) (HAa : ∀ w v, ExV w v x → FnAt g ty w → Calls Tryd.prog 45 #[v, .bool false, .pointer (some ⟨g, 0, none⟩)] w fun r w' => ∃ z, r = .returned z ∧ ExV w' z Aa ∧ Below w.heap.size w w') (HBb : ∀ w v, ExV w v y → FnAt g ty w → Calls Tryd.prog 45 #[v, .bool true, .pointer (some ⟨g, 0, none⟩)] w fun r w' => ∃ z, r = .returned z ∧ ExV w' z Bb ∧ Below w.heap.size w w') (HCc : ∀ w v, ExV w v x → FnAt g ty w → Calls Tryd.prog 45 #[v, .bool true, .pointer (some ⟨g, 0, none⟩)] w fun r w' => ∃ z, r = .returned z ∧ ExV w' z Cc ∧ Below w.heap.size w w') (HDd : ∀ w v, ExV w v y → FnAt g ty w → Calls Tryd.prog 45 #[v, .bool false, .pointer (some ⟨g, 0, none⟩)] w fun r w' => ∃ z, r = .returned z ∧ ExV w' z Dd ∧ Below w.heap.size w w') (w : World) (v : Value) (hv : ExV w v ⟨7, 0, 0, m, [x, y]⟩) (hF : FnAt g ty w) :
    Calls Tryd.prog 45 #[v, .bool false, .pointer (some ⟨g, 0, none⟩)] w fun r w' => ∃ z, r = .returned z ∧ ExV w' z (binE 15 (binE 14 Aa Bb) (binE 14 Cc Dd)) ∧ Below w.heap.size w w' := by
  have hmI : I64 m := by obtain ⟨_, _, hi, _⟩ := hv; exact hi.2.2.2
  have HNot := Lib.hid (fun W (hb : Below w.heap.size w W) => nnf_not _ W v (hv.below hb))
  have HBoth := Lib.hid (fun W (hb : Below w.heap.size w W) => nnf_both _ W v (hv.below hb))
  have HJ := Lib.hid (fun W => nnf_junction m W)
  rw [notB_bin] at HNot
  rw [bothB_bin] at HBoth
  rw [hj] at HJ
  have HM := Lib.hid hmI
  have HZ := Lib.hid hz
  clear hj hmI hz
  have HAa := Lib.hid HAa
  have HBb := Lib.hid HBb
  have HCc := Lib.hid HCc
  have HDd := Lib.hid HDd
  obtain ⟨sl, rfl, hr, hrow⟩ := hv
  simp only at hrow
  obtain ⟨sa, sc, rfl⟩ := row_get hrow
  obtain ⟨bx, ox, ss, sn, sc2, rfl, hbx, q1, q2, d0, d1, d2, d3, d4, dV⟩ := ex_at hrow (k := 0) (x := x) rfl
  obtain ⟨_, _, ss', sn', sc2', hh, _, _, _, d5, d6, d7, d8, d9, dV'⟩ := ex_at hrow (k := 1) (x := y) rfl
  obtain ⟨rfl, rfl⟩ : bx = _ ∧ ox = _ := by injection hh with hh; injection hh with h1 h2; exact ⟨h1, h2⟩
  have hl2 : ([x, y] : List Ex).length = 2 := rfl
  rw [hl2]
  clear hh
  obtain ⟨W0, hW0⟩ : ∃ W0, W0 = (w.alloc (.cells #[.int .i64 7, .int .i64 0, .int .i64 0, .int .i64 m, .slice (some ⟨bx, ox, none⟩) 2 sc] 37)).alloc (.cells #[.int .i64 0, .int .i64 0, .int .i64 0, .int .i64 0, .slice none 0 0] 37) := ⟨_, rfl⟩
  have oE : W0.heap[w.heap.size]? = some (.cells #[.int .i64 7, .int .i64 0, .int .i64 0, .int .i64 m, .slice (some ⟨bx, ox, none⟩) 2 sc] 37) := by rw [hW0]; exact (get_past (by simp)).trans (get_last rfl)
  have oR : W0.heap[w.heap.size + 1]? = some (.cells #[.int .i64 0, .int .i64 0, .int .i64 0, .int .i64 0, .slice none 0 0] 37) := by rw [hW0]; exact get_last (by simp)
  have hbw : Below w.heap.size w W0 := by rw [hW0]; exact by (repeat' (first | (with_reducible exact Below.refl _ _) | (with_reducible assumption) | (with_reducible refine below_drewN ?_ _) | (with_reducible refine Below.alloc ?_ ?_ _) | (with_reducible refine Below.drew ?_) | (with_reducible refine Below.setCell ?_ ?_ _) | go_size))
  have HW0 := Lib.hid hW0
  have HVx := Lib.hid (fun W (hb : Below w.heap.size w W) => dV.below hb)
  have HVy := Lib.hid (fun W (hb : Below w.heap.size w W) => dV'.below hb)
  obtain ⟨yo, yt, yn, ym, yl⟩ := y
  obtain ⟨xo, xt, xn, xm, xl⟩ := x
  replace d0 : w.cell? ⟨bx, ox, none⟩ = some (.int .i64 xo) := by simpa using d0
  replace d1 : w.cell? ⟨bx, ox + 1, none⟩ = some (.int .i64 xt) := by simpa using d1
  replace d2 : w.cell? ⟨bx, ox + 2, none⟩ = some (.int .i64 xn) := by simpa using d2
  replace d3 : w.cell? ⟨bx, ox + 3, none⟩ = some (.int .i64 xm) := by simpa using d3
  replace d4 : w.cell? ⟨bx, ox + 4, none⟩ = some (.slice ss sn sc2) := by simpa using d4
  replace d5 : w.cell? ⟨bx, ox + 5, none⟩ = some (.int .i64 yo) := by simpa using d5
  replace d6 : w.cell? ⟨bx, ox + 5 + 1, none⟩ = some (.int .i64 yt) := by simpa using d6
  replace d7 : w.cell? ⟨bx, ox + 5 + 2, none⟩ = some (.int .i64 yn) := by simpa using d7
  replace d8 : w.cell? ⟨bx, ox + 5 + 3, none⟩ = some (.int .i64 ym) := by simpa using d8
  replace d9 : w.cell? ⟨bx, ox + 5 + 4, none⟩ = some (.slice ss' sn' sc2') := by simpa using d9
  have D := Lib.hid (And.intro d0 (And.intro d1 (And.intro d2 (And.intro d3 (And.intro d4 (And.intro d5 (And.intro d6 (And.intro d7 (And.intro d8 d9)))))))))
  have HBX := Lib.hid hbx
  have HF := Lib.hid hF
  have HOE := Lib.hid oE
  have HOR := Lib.hid oR
  have HB0 := Lib.hid hbw
  have mixed : Tryd.prog.follows .mixedOrders = true := by kernel_rfl
  clear hW0 oE oR hbw dV dV' hr hrow q1 q2 hF d0 d1 d2 d3 d4 d5 d6 d7 d8 d9 hbx
  rw [hl2] at HNot HBoth
  clear hl2
  go_enter Tryd.func45, Tryd.ntmps45
  go_wp2_with fail
  refine (HNot.out _ (by (repeat' (first | (with_reducible exact Below.refl _ _) | (with_reducible assumption) | (with_reducible refine below_drewN ?_ _) | (with_reducible refine Below.alloc ?_ ?_ _) | (with_reducible refine Below.drew ?_) | (with_reducible refine Below.setCell ?_ ?_ _) | go_size)))).mono ?_; rintro r w1 ⟨rfl, hb1⟩
  rw [← HW0.out] at hb1
  have E1 := Lib.hid (obj_below HOE.out hb1 (heap_lt HOE.out))
  have R1 := Lib.hid (obj_below HOR.out hb1 (heap_lt HOR.out))
  have B1 := Lib.hid (HB0.out.trans (hb1.mono HB0.out.size))
  clear hb1
  obtain ⟨e0, e1, e2, e3, e4⟩ := boxed_ex5 E1.out
  have ye := heap_lt E1.out
  go_wp2_with fail
  refine (HBoth.out _ B1.out).mono ?_; rintro r w2 ⟨rfl, hb2⟩
  have E2 := Lib.hid (obj_below E1.out hb2 (heap_lt E1.out))
  have R2 := Lib.hid (obj_below R1.out hb2 (heap_lt R1.out))
  have B2 := Lib.hid (B1.out.trans (hb2.mono B1.out.size))
  clear e0 e1 e2 e3 e4 ye hb2
  obtain ⟨e0, e1, e2, e3, e4⟩ := boxed_ex5 E2.out
  have ye := heap_lt E2.out
  obtain ⟨d0, d1, d2, d3, d4, d5, d6, d7, d8, d9⟩ := D.out
  have hbx := HBX.out
  have c0 : w2.cell? ⟨bx, ox, none⟩ = some (.int .i64 xo) := (B2.out.cell (p := ⟨bx, ox, none⟩) hbx).trans d0
  have c1 : w2.cell? ⟨bx, ox + 1, none⟩ = some (.int .i64 xt) := (B2.out.cell (p := ⟨bx, ox + 1, none⟩) hbx).trans d1
  have c2 : w2.cell? ⟨bx, ox + 2, none⟩ = some (.int .i64 xn) := (B2.out.cell (p := ⟨bx, ox + 2, none⟩) hbx).trans d2
  have c3 : w2.cell? ⟨bx, ox + 3, none⟩ = some (.int .i64 xm) := (B2.out.cell (p := ⟨bx, ox + 3, none⟩) hbx).trans d3
  have c4 : w2.cell? ⟨bx, ox + 4, none⟩ = some (.slice ss sn sc2) := (B2.out.cell (p := ⟨bx, ox + 4, none⟩) hbx).trans d4
  have c5 : w2.cell? ⟨bx, ox + 5, none⟩ = some (.int .i64 yo) := (B2.out.cell (p := ⟨bx, ox + 5, none⟩) hbx).trans d5
  have c6 : w2.cell? ⟨bx, ox + 5 + 1, none⟩ = some (.int .i64 yt) := (B2.out.cell (p := ⟨bx, ox + 5 + 1, none⟩) hbx).trans d6
  have c7 : w2.cell? ⟨bx, ox + 5 + 2, none⟩ = some (.int .i64 yn) := (B2.out.cell (p := ⟨bx, ox + 5 + 2, none⟩) hbx).trans d7
  have c8 : w2.cell? ⟨bx, ox + 5 + 3, none⟩ = some (.int .i64 ym) := (B2.out.cell (p := ⟨bx, ox + 5 + 3, none⟩) hbx).trans d8
  have c9 : w2.cell? ⟨bx, ox + 5 + 4, none⟩ = some (.slice ss' sn' sc2') := (B2.out.cell (p := ⟨bx, ox + 5 + 4, none⟩) hbx).trans d9
  have yb : bx < w2.heap.size := Nat.lt_of_lt_of_le hbx B2.out.size
  clear d0 d1 d2 d3 d4 d5 d6 d7 d8 d9 hbx
  go_wp2_with fail
  have qq0 := fun wt (h : Below w2.heap.size w2 wt) => cellB h e0 ye
  have qq1 := fun wt (h : Below w2.heap.size w2 wt) => cellB h e1 ye
  have qq2 := fun wt (h : Below w2.heap.size w2 wt) => cellB h e2 ye
  have qq3 := fun wt (h : Below w2.heap.size w2 wt) => cellB h e3 ye
  have qq4 := fun wt (h : Below w2.heap.size w2 wt) => cellB h e4 ye
  have qq5 := fun wt (h : Below w2.heap.size w2 wt) => cellB h c0 yb
  have qq6 := fun wt (h : Below w2.heap.size w2 wt) => cellB h c1 yb
  have qq7 := fun wt (h : Below w2.heap.size w2 wt) => cellB h c2 yb
  have qq8 := fun wt (h : Below w2.heap.size w2 wt) => cellB h c3 yb
  have qq9 := fun wt (h : Below w2.heap.size w2 wt) => cellB h c4 yb
  have qq10 := fun wt (h : Below w2.heap.size w2 wt) => cellB h c5 yb
  have qq11 := fun wt (h : Below w2.heap.size w2 wt) => cellB h c6 yb
  have qq12 := fun wt (h : Below w2.heap.size w2 wt) => cellB h c7 yb
  have qq13 := fun wt (h : Below w2.heap.size w2 wt) => cellB h c8 yb
  have qq14 := fun wt (h : Below w2.heap.size w2 wt) => cellB h c9 yb
  refine wp_region_held_drew (S := (fun w' => Below w2.heap.size w2 w')) (by kernel_rfl) ?_ (fun hHeld => ?_)
  · (try dsimp only); first | assumption | exact Below.alloc hHeld hHeld.size _ | exact (Below.refl _ _).drew | exact Below.drew (Below.refl _ _) | exact Below_drewN _ _ _ | exact Below.refl _ _
  refine tk 0 (v := ?_) (hy := ?_) (h := ?_); rotate_left
  · intro _ _; go_simp <;> with_reducible rfl
  try simp only [pu, pa, pz, ps]
  refine tk 1 (v := ?_) (hy := ?_) (h := ?_); rotate_left
  · intro wt hSw; (try dsimp only at hSw); go_simp <;> with_reducible rfl
  try simp only [pu, pa, pz, ps]
  refine tk 2 (v := ?_) (hy := ?_) (h := ?_); rotate_left
  · intro _ _; go_simp <;> with_reducible rfl
  try simp only [pu, pa, pz, ps]
  refine tk 3 (v := ?_) (hy := ?_) (h := ?_); rotate_left
  · intro wt hSw; (try dsimp only at hSw); go_simp <;> with_reducible rfl
  try simp only [pu, pa, pz, ps]
  refine tk 4 (v := ?_) (hy := ?_) (h := ?_); rotate_left
  · intro _ _; go_simp <;> with_reducible rfl
  try simp only [pu, pa, pz, ps]
  refine tk 5 (v := ?_) (hy := ?_) (h := ?_); rotate_left
  · intro wt hSw; (try dsimp only at hSw); go_simp <;> with_reducible rfl
  try simp only [pu, pa, pz, ps]
  refine tk 6 (v := ?_) (hy := ?_) (h := ?_); rotate_left
  · intro _ _; go_simp <;> with_reducible rfl
  try simp only [pu, pa, pz, ps]
  refine tk 7 (v := ?_) (hy := ?_) (h := ?_); rotate_left
  · intro wt hSw; (try dsimp only at hSw); go_simp <;> with_reducible rfl
  try simp only [pu, pa, pz, ps]
  refine wpAnyH_ready (rs := [8, 9]) (by kernel_rfl) (by simp) ?_
  refine AllReadyH.cons (o := ⟨_, _, _, _, _, _⟩) rfl (fun K hK => ?_) (AllReadyH.cons (o := ⟨_, _, _, _, _, _⟩) rfl (fun K hK => ?_) (AllReadyH.nil))
  go_simp
  refine hK.out _ _ ?_ (fun hHeld => ?_)
  · (try dsimp only); first | assumption | exact Below.alloc hHeld hHeld.size _ | exact (Below.refl _ _).drew | exact Below.drew (Below.refl _ _) | exact Below_drewN _ _ _ | exact Below.refl _ _
  clear hK K
  try simp only [pu, pa, pz, ps]
  refine wpAnyH_ready (rs := [9]) (by kernel_rfl) (by simp) ?_
  refine AllReadyH.cons (o := ⟨_, _, _, _, _, _⟩) rfl (fun K hK => ?_) AllReadyH.nil
  go_simp
  refine hK.out _ _ ?_ (fun hHeld => ?_)
  · (try dsimp only); first | assumption | exact Below.alloc hHeld hHeld.size _ | exact (Below.refl _ _).drew | exact Below.drew (Below.refl _ _) | exact Below_drewN _ _ _ | exact Below.refl _ _
  clear hK K
  try simp only [pu, pa, pz, ps]
  refine wpAnyH_ready (rs := [10]) (by kernel_rfl) (by simp) ?_
  refine AllReadyH.cons (o := ⟨_, _, _, _, _, _⟩) rfl (fun K hK => ?_) AllReadyH.nil
  go_simp
  refine hK.out _ _ ?_ (fun hHeld => ?_)
  · (try dsimp only); exact by (repeat' (first | (with_reducible exact Below.refl _ _) | (with_reducible assumption) | (with_reducible refine below_drewN ?_ _) | (with_reducible refine Below.alloc ?_ ?_ _) | (with_reducible refine Below.drew ?_) | (with_reducible refine Below.setCell ?_ ?_ _) | go_size))
  clear hK K
  try simp only [pu, pa, pz, ps]
  refine wpAnyH_ready (rs := [11]) (by kernel_rfl) (by simp) ?_
  refine AllReadyH.cons (o := ⟨_, _, _, _, _, _⟩) rfl (fun K hK => ?_) AllReadyH.nil
  go_simp
  refine hK.out _ _ ?_ (fun hHeld => ?_)
  · (try dsimp only); exact by (repeat' (first | (with_reducible exact Below.refl _ _) | (with_reducible assumption) | (with_reducible refine below_drewN ?_ _) | (with_reducible refine Below.alloc ?_ ?_ _) | (with_reducible refine Below.drew ?_) | (with_reducible refine Below.setCell ?_ ?_ _) | go_size))
  clear hK K
  try simp only [pu, pa, pz, ps]
  refine wpAnyH_done (by kernel_rfl) ?_ _
  have OA := Lib.hid (show (((w2.alloc (.cells #[.int .i64 xo, .int .i64 xt, .int .i64 xn, .int .i64 xm, .slice ss sn sc2] 37)).alloc (.cells #[.int .i64 yo, .int .i64 yt, .int .i64 yn, .int .i64 ym, .slice ss' sn' sc2'] 37)).drew).heap[w2.heap.size]? = some (.cells #[.int .i64 xo, .int .i64 xt, .int .i64 xn, .int .i64 xm, .slice ss sn sc2] 37) from (get_past (by simp)).trans (get_last rfl))
  have OB := Lib.hid (show (((w2.alloc (.cells #[.int .i64 xo, .int .i64 xt, .int .i64 xn, .int .i64 xm, .slice ss sn sc2] 37)).alloc (.cells #[.int .i64 yo, .int .i64 yt, .int .i64 yn, .int .i64 ym, .slice ss' sn' sc2'] 37)).drew).heap[w2.heap.size + 1]? = some (.cells #[.int .i64 yo, .int .i64 yt, .int .i64 yn, .int .i64 ym, .slice ss' sn' sc2'] 37) from get_last (by simp))
  have hb5 : Below w2.heap.size w2 (((w2.alloc (.cells #[.int .i64 xo, .int .i64 xt, .int .i64 xn, .int .i64 xm, .slice ss sn sc2] 37)).alloc (.cells #[.int .i64 yo, .int .i64 yt, .int .i64 yn, .int .i64 ym, .slice ss' sn' sc2'] 37)).drew) := by (repeat' (first | (with_reducible exact Below.refl _ _) | (with_reducible assumption) | (with_reducible refine below_drewN ?_ _) | (with_reducible refine Below.alloc ?_ ?_ _) | (with_reducible refine Below.drew ?_) | (with_reducible refine Below.setCell ?_ ?_ _) | go_size))
  generalize hW5 : ((w2.alloc (.cells #[.int .i64 xo, .int .i64 xt, .int .i64 xn, .int .i64 xm, .slice ss sn sc2] 37)).alloc (.cells #[.int .i64 yo, .int .i64 yt, .int .i64 yn, .int .i64 ym, .slice ss' sn' sc2'] 37)).drew = w5 at *
  clear hHeld hW5 e0 e1 e2 e3 e4 ye yb c0 c1 c2 c3 c4 c5 c6 c7 c8 c9
  have E5 := Lib.hid (obj_below E2.out hb5 (heap_lt E2.out))
  have R5 := Lib.hid (obj_below R2.out hb5 (heap_lt R2.out))
  have B5 := Lib.hid (B2.out.trans (hb5.mono B2.out.size))
  have n2 : w.heap.size + 1 ≠ w2.heap.size := by have := heap_lt R2.out; omega
  have n3 : w.heap.size + 1 ≠ w2.heap.size + 1 := by have := heap_lt R2.out; omega
  have HN := Lib.hid (And.intro n2 n3)
  clear n2 n3 hb5 E2 R2 B2 HOE HOR HB0 HW0 E1 R1 B1
  generalize w2.heap.size + 1 = qb at *
  generalize w2.heap.size = qa at *
  rotate_left
  go_simp
  refine hK.out _ _ ?_ (fun hHeld => ?_)
  · (try dsimp only); first | assumption | exact Below.alloc hHeld hHeld.size _ | exact (Below.refl _ _).drew | exact Below.drew (Below.refl _ _) | exact Below_drewN _ _ _ | exact Below.refl _ _
  clear hK K
  try simp only [pu, pa, pz, ps]
  refine wpAnyH_ready (rs := [8]) (by kernel_rfl) (by simp) ?_
  refine AllReadyH.cons (o := ⟨_, _, _, _, _, _⟩) rfl (fun K hK => ?_) AllReadyH.nil
  go_simp
  refine hK.out _ _ ?_ (fun hHeld => ?_)
  · (try dsimp only); first | assumption | exact Below.alloc hHeld hHeld.size _ | exact (Below.refl _ _).drew | exact Below.drew (Below.refl _ _) | exact Below_drewN _ _ _ | exact Below.refl _ _
  clear hK K
  try simp only [pu, pa, pz, ps]
  refine wpAnyH_ready (rs := [10]) (by kernel_rfl) (by simp) ?_
  refine AllReadyH.cons (o := ⟨_, _, _, _, _, _⟩) rfl (fun K hK => ?_) AllReadyH.nil
  go_simp
  refine hK.out _ _ ?_ (fun hHeld => ?_)
  · (try dsimp only); exact by (repeat' (first | (with_reducible exact Below.refl _ _) | (with_reducible assumption) | (with_reducible refine below_drewN ?_ _) | (with_reducible refine Below.alloc ?_ ?_ _) | (with_reducible refine Below.drew ?_) | (with_reducible refine Below.setCell ?_ ?_ _) | go_size))
  clear hK K
  try simp only [pu, pa, pz, ps]
  refine wpAnyH_ready (rs := [11]) (by kernel_rfl) (by simp) ?_
  refine AllReadyH.cons (o := ⟨_, _, _, _, _, _⟩) rfl (fun K hK => ?_) AllReadyH.nil
  go_simp
  refine hK.out _ _ ?_ (fun hHeld => ?_)
  · (try dsimp only); exact by (repeat' (first | (with_reducible exact Below.refl _ _) | (with_reducible assumption) | (with_reducible refine below_drewN ?_ _) | (with_reducible refine Below.alloc ?_ ?_ _) | (with_reducible refine Below.drew ?_) | (with_reducible refine Below.setCell ?_ ?_ _) | go_size))
  clear hK K
  try simp only [pu, pa, pz, ps]
  refine wpAnyH_done (by kernel_rfl) ?_ _
  have OB := Lib.hid (show (((w2.alloc (.cells #[.int .i64 yo, .int .i64 yt, .int .i64 yn, .int .i64 ym, .slice ss' sn' sc2'] 37)).alloc (.cells #[.int .i64 xo, .int .i64 xt, .int .i64 xn, .int .i64 xm, .slice ss sn sc2] 37)).drew).heap[w2.heap.size]? = some (.cells #[.int .i64 yo, .int .i64 yt, .int .i64 yn, .int .i64 ym, .slice ss' sn' sc2'] 37) from (get_past (by simp)).trans (get_last rfl))
  have OA := Lib.hid (show (((w2.alloc (.cells #[.int .i64 yo, .int .i64 yt, .int .i64 yn, .int .i64 ym, .slice ss' sn' sc2'] 37)).alloc (.cells #[.int .i64 xo, .int .i64 xt, .int .i64 xn, .int .i64 xm, .slice ss sn sc2] 37)).drew).heap[w2.heap.size + 1]? = some (.cells #[.int .i64 xo, .int .i64 xt, .int .i64 xn, .int .i64 xm, .slice ss sn sc2] 37) from get_last (by simp))
  have hb5 : Below w2.heap.size w2 (((w2.alloc (.cells #[.int .i64 yo, .int .i64 yt, .int .i64 yn, .int .i64 ym, .slice ss' sn' sc2'] 37)).alloc (.cells #[.int .i64 xo, .int .i64 xt, .int .i64 xn, .int .i64 xm, .slice ss sn sc2] 37)).drew) := by (repeat' (first | (with_reducible exact Below.refl _ _) | (with_reducible assumption) | (with_reducible refine below_drewN ?_ _) | (with_reducible refine Below.alloc ?_ ?_ _) | (with_reducible refine Below.drew ?_) | (with_reducible refine Below.setCell ?_ ?_ _) | go_size))
  generalize hW5 : ((w2.alloc (.cells #[.int .i64 yo, .int .i64 yt, .int .i64 yn, .int .i64 ym, .slice ss' sn' sc2'] 37)).alloc (.cells #[.int .i64 xo, .int .i64 xt, .int .i64 xn, .int .i64 xm, .slice ss sn sc2] 37)).drew = w5 at *
  clear hHeld hW5 e0 e1 e2 e3 e4 ye yb c0 c1 c2 c3 c4 c5 c6 c7 c8 c9
  have E5 := Lib.hid (obj_below E2.out hb5 (heap_lt E2.out))
  have R5 := Lib.hid (obj_below R2.out hb5 (heap_lt R2.out))
  have B5 := Lib.hid (B2.out.trans (hb5.mono B2.out.size))
  have n2 : w.heap.size + 1 ≠ w2.heap.size + 1 := by have := heap_lt R2.out; omega
  have n3 : w.heap.size + 1 ≠ w2.heap.size := by have := heap_lt R2.out; omega
  have HN := Lib.hid (And.intro n2 n3)
  clear n2 n3 hb5 E2 R2 B2 HOE HOR HB0 HW0 E1 R1 B1
  generalize w2.heap.size + 1 = qa at *
  generalize w2.heap.size = qb at *
  all_goals
    have e3 := obj_cell E5.out (i := 3) rfl
    have ye := heap_lt E5.out
    go_wp2_with fail
    refine (HJ.out _).mono ?_; rintro r v0 ⟨rfl, hv0⟩; rw [hv0]; clear hv0
    go_wp2_with fail
    clear e3 ye
    have R0 := Lib.hid (show w5.drew.heap[w.heap.size + 1]? = _ from R5.out)
    have B0 := Lib.hid (show Below w.heap.size w w5.drew from B5.out.drew)
    have hT0 : Kept w.heap.size qa qb _ _ _ w w5.drew := ⟨⟨E5.out, OA.out, OB.out⟩, B0.out⟩
    clear E5 OA OB R5 B5
    refine wp_region_held_drew (S := (fun w' => Kept w.heap.size qa qb (.cells #[.int .i64 7, .int .i64 0, .int .i64 0, .int .i64 m, .slice (some ⟨bx, ox, none⟩) 2 sc] 37) (.cells #[.int .i64 xo, .int .i64 xt, .int .i64 xn, .int .i64 xm, .slice ss sn sc2] 37) (.cells #[.int .i64 yo, .int .i64 yt, .int .i64 yn, .int .i64 ym, .slice ss' sn' sc2'] 37) w w')) (by kernel_rfl) ?_ (fun hHeld => ?_)
    · (try dsimp only); exact hT0
    refine tk 0 (v := ?_) (hy := ?_) (h := ?_); rotate_left
    · intro wt hSw; (try dsimp only at hSw); have e3 := obj_cell hSw.o.e (i := 3) rfl; obtain ⟨a0, a1, a2, a3, a4⟩ := boxed_ex5 hSw.o.a; obtain ⟨b0, b1, b2, b3, b4⟩ := boxed_ex5 hSw.o.b; have za := heap_lt hSw.o.a; have zb := heap_lt hSw.o.b; have cF := obj_cell (obj_below HF.out hSw.b (heap_lt HF.out)) (i := 0) rfl; have yF := Nat.lt_of_lt_of_le (heap_lt HF.out) hSw.b.size; go_simp <;> with_reducible rfl
    try simp only [pu, pa, pz, ps]
    refine tk 1 (v := ?_) (hy := ?_) (h := ?_); rotate_left
    · intro wt hSw; (try dsimp only at hSw); have e3 := obj_cell hSw.o.e (i := 3) rfl; obtain ⟨a0, a1, a2, a3, a4⟩ := boxed_ex5 hSw.o.a; obtain ⟨b0, b1, b2, b3, b4⟩ := boxed_ex5 hSw.o.b; have za := heap_lt hSw.o.a; have zb := heap_lt hSw.o.b; have cF := obj_cell (obj_below HF.out hSw.b (heap_lt HF.out)) (i := 0) rfl; have yF := Nat.lt_of_lt_of_le (heap_lt HF.out) hSw.b.size; go_simp <;> with_reducible rfl
    try simp only [pu, pa, pz, ps]
    refine tk 3 (v := ?_) (hy := ?_) (h := ?_); rotate_left
    · intro wt hSw; (try dsimp only at hSw); have e3 := obj_cell hSw.o.e (i := 3) rfl; obtain ⟨a0, a1, a2, a3, a4⟩ := boxed_ex5 hSw.o.a; obtain ⟨b0, b1, b2, b3, b4⟩ := boxed_ex5 hSw.o.b; have za := heap_lt hSw.o.a; have zb := heap_lt hSw.o.b; have cF := obj_cell (obj_below HF.out hSw.b (heap_lt HF.out)) (i := 0) rfl; have yF := Nat.lt_of_lt_of_le (heap_lt HF.out) hSw.b.size; go_simp <;> with_reducible rfl
    try simp only [pu, pa, pz, ps]
    refine tk 4 (v := ?_) (hy := ?_) (h := ?_); rotate_left
    · intro wt hSw; (try dsimp only at hSw); have e3 := obj_cell hSw.o.e (i := 3) rfl; obtain ⟨a0, a1, a2, a3, a4⟩ := boxed_ex5 hSw.o.a; obtain ⟨b0, b1, b2, b3, b4⟩ := boxed_ex5 hSw.o.b; have za := heap_lt hSw.o.a; have zb := heap_lt hSw.o.b; have cF := obj_cell (obj_below HF.out hSw.b (heap_lt HF.out)) (i := 0) rfl; have yF := Nat.lt_of_lt_of_le (heap_lt HF.out) hSw.b.size; go_simp <;> with_reducible rfl
    try simp only [pu, pa, pz, ps]
    refine tk 5 (v := ?_) (hy := ?_) (h := ?_); rotate_left
    · intro _ _; go_simp <;> with_reducible rfl
    try simp only [pu, pa, pz, ps]
    refine tk 8 (v := ?_) (hy := ?_) (h := ?_); rotate_left
    · intro wt hSw; (try dsimp only at hSw); have e3 := obj_cell hSw.o.e (i := 3) rfl; obtain ⟨a0, a1, a2, a3, a4⟩ := boxed_ex5 hSw.o.a; obtain ⟨b0, b1, b2, b3, b4⟩ := boxed_ex5 hSw.o.b; have za := heap_lt hSw.o.a; have zb := heap_lt hSw.o.b; have cF := obj_cell (obj_below HF.out hSw.b (heap_lt HF.out)) (i := 0) rfl; have yF := Nat.lt_of_lt_of_le (heap_lt HF.out) hSw.b.size; go_simp <;> with_reducible rfl
    try simp only [pu, pa, pz, ps]
    refine tk 9 (v := ?_) (hy := ?_) (h := ?_); rotate_left
    · intro wt hSw; (try dsimp only at hSw); have e3 := obj_cell hSw.o.e (i := 3) rfl; obtain ⟨a0, a1, a2, a3, a4⟩ := boxed_ex5 hSw.o.a; obtain ⟨b0, b1, b2, b3, b4⟩ := boxed_ex5 hSw.o.b; have za := heap_lt hSw.o.a; have zb := heap_lt hSw.o.b; have cF := obj_cell (obj_below HF.out hSw.b (heap_lt HF.out)) (i := 0) rfl; have yF := Nat.lt_of_lt_of_le (heap_lt HF.out) hSw.b.size; go_simp <;> with_reducible rfl
    try simp only [pu, pa, pz, ps]
    refine tk 11 (v := ?_) (hy := ?_) (h := ?_); rotate_left
    · intro wt hSw; (try dsimp only at hSw); have e3 := obj_cell hSw.o.e (i := 3) rfl; obtain ⟨a0, a1, a2, a3, a4⟩ := boxed_ex5 hSw.o.a; obtain ⟨b0, b1, b2, b3, b4⟩ := boxed_ex5 hSw.o.b; have za := heap_lt hSw.o.a; have zb := heap_lt hSw.o.b; have cF := obj_cell (obj_below HF.out hSw.b (heap_lt HF.out)) (i := 0) rfl; have yF := Nat.lt_of_lt_of_le (heap_lt HF.out) hSw.b.size; go_simp <;> with_reducible rfl
    try simp only [pu, pa, pz, ps]
    refine tk 12 (v := ?_) (hy := ?_) (h := ?_); rotate_left
    · intro wt hSw; (try dsimp only at hSw); have e3 := obj_cell hSw.o.e (i := 3) rfl; obtain ⟨a0, a1, a2, a3, a4⟩ := boxed_ex5 hSw.o.a; obtain ⟨b0, b1, b2, b3, b4⟩ := boxed_ex5 hSw.o.b; have za := heap_lt hSw.o.a; have zb := heap_lt hSw.o.b; have cF := obj_cell (obj_below HF.out hSw.b (heap_lt HF.out)) (i := 0) rfl; have yF := Nat.lt_of_lt_of_le (heap_lt HF.out) hSw.b.size; go_simp <;> with_reducible rfl
    try simp only [pu, pa, pz, ps]
    refine tk 13 (v := ?_) (hy := ?_) (h := ?_); rotate_left
    · intro _ _; go_simp <;> with_reducible rfl
    try simp only [pu, pa, pz, ps]
    refine tk 14 (v := ?_) (hy := ?_) (h := ?_); rotate_left
    · intro _ _; go_simp <;> with_reducible rfl
    try simp only [pu, pa, pz, ps]
    refine wpAnyH_ready (rs := [2]) (by kernel_rfl) (by simp) ?_
    refine AllReadyH.cons (o := ⟨_, _, _, _, _, _⟩) rfl (fun K hK => ?_) AllReadyH.nil
    go_simp
    refine (HAa.out _ _ (HVx.out _ B0.out) (obj_below HF.out B0.out (heap_lt HF.out))).mono ?_; rintro r v1 ⟨z0, rfl, hz0, hb⟩; have hb1 := Lib.hid hb; clear hb
    go_wp2_with fail
    refine hK.out _ _ ?_ (fun hHeld => ?_)
    · (try dsimp only); exact hHeld.below hb1.out
    clear hK K
    have R1 := Lib.hid (obj_below R0.out hb1.out (heap_lt R0.out))
    have B1 := Lib.hid (B0.out.trans (hb1.out.mono B0.out.size))
    have Z0 := Lib.hid hz0
    clear hz0
    try simp only [pu, pa, pz, ps]
    refine wpAnyH_ready (rs := [6]) (by kernel_rfl) (by simp) ?_
    refine AllReadyH.cons (o := ⟨_, _, _, _, _, _⟩) rfl (fun K hK => ?_) AllReadyH.nil
    go_simp
    refine (HBb.out _ _ (HVy.out _ B1.out) (obj_below HF.out B1.out (heap_lt HF.out))).mono ?_; rintro r v2 ⟨z1, rfl, hz1, hb⟩; have hb2 := Lib.hid hb; clear hb
    go_wp2_with fail
    refine hK.out _ _ ?_ (fun hHeld => ?_)
    · (try dsimp only); exact hHeld.below hb2.out
    clear hK K
    have R2 := Lib.hid (obj_below R1.out hb2.out (heap_lt R1.out))
    have B2 := Lib.hid (B1.out.trans (hb2.out.mono B1.out.size))
    have Z1 := Lib.hid hz1
    have Z0 := Lib.hid (Z0.out.below hb2.out)
    clear hz1
    try simp only [pu, pa, pz, ps]
    refine wpAnyH_ready (rs := [7]) (by kernel_rfl) (by simp) ?_
    refine AllReadyH.cons (o := ⟨_, _, _, _, _, _⟩) rfl (fun K hK => ?_) AllReadyH.nil
    go_simp
    refine (nnf_bin 14 _ _ _ _ _ (by unfold I64; omega) Z0.out Z1.out).mono ?_; rintro r v3 ⟨z2, rfl, hz2, hb⟩; have hb3 := Lib.hid hb; clear hb
    go_wp2_with fail
    refine hK.out _ _ ?_ (fun hHeld => ?_)
    · (try dsimp only); exact hHeld.below hb3.out
    clear hK K
    have R3 := Lib.hid (obj_below R2.out hb3.out (heap_lt R2.out))
    have B3 := Lib.hid (B2.out.trans (hb3.out.mono B2.out.size))
    have Z2 := Lib.hid hz2
    clear hz2
    try simp only [pu, pa, pz, ps]
    refine wpAnyH_ready (rs := [10]) (by kernel_rfl) (by simp) ?_
    refine AllReadyH.cons (o := ⟨_, _, _, _, _, _⟩) rfl (fun K hK => ?_) AllReadyH.nil
    go_simp
    refine (HCc.out _ _ (HVx.out _ B3.out) (obj_below HF.out B3.out (heap_lt HF.out))).mono ?_; rintro r v4 ⟨z3, rfl, hz3, hb⟩; have hb4 := Lib.hid hb; clear hb
    go_wp2_with fail
    refine hK.out _ _ ?_ (fun hHeld => ?_)
    · (try dsimp only); exact hHeld.below hb4.out
    clear hK K
    have R4 := Lib.hid (obj_below R3.out hb4.out (heap_lt R3.out))
    have B4 := Lib.hid (B3.out.trans (hb4.out.mono B3.out.size))
    have Z3 := Lib.hid hz3
    have Z2 := Lib.hid (Z2.out.below hb4.out)
    clear hz3
    try simp only [pu, pa, pz, ps]
    refine wpAnyH_ready (rs := [15]) (by kernel_rfl) (by simp) ?_
    refine AllReadyH.cons (o := ⟨_, _, _, _, _, _⟩) rfl (fun K hK => ?_) AllReadyH.nil
    go_simp
    refine (HDd.out _ _ (HVy.out _ B4.out) (obj_below HF.out B4.out (heap_lt HF.out))).mono ?_; rintro r v5 ⟨z4, rfl, hz4, hb⟩; have hb5 := Lib.hid hb; clear hb
    go_wp2_with fail
    refine hK.out _ _ ?_ (fun hHeld => ?_)
    · (try dsimp only); exact hHeld.below hb5.out
    clear hK K
    have R5 := Lib.hid (obj_below R4.out hb5.out (heap_lt R4.out))
    have B5 := Lib.hid (B4.out.trans (hb5.out.mono B4.out.size))
    have Z4 := Lib.hid hz4
    have Z2 := Lib.hid (Z2.out.below hb5.out)
    have Z3 := Lib.hid (Z3.out.below hb5.out)
    clear hz4
    try simp only [pu, pa, pz, ps]
    refine wpAnyH_ready (rs := [16]) (by kernel_rfl) (by simp) ?_
    refine AllReadyH.cons (o := ⟨_, _, _, _, _, _⟩) rfl (fun K hK => ?_) AllReadyH.nil
    go_simp
    refine (nnf_bin 14 _ _ _ _ _ (by unfold I64; omega) Z3.out Z4.out).mono ?_; rintro r v6 ⟨z5, rfl, hz5, hb⟩; have hb6 := Lib.hid hb; clear hb
    go_wp2_with fail
    refine hK.out _ _ ?_ (fun hHeld => ?_)
    · (try dsimp only); exact hHeld.below hb6.out
    clear hK K
    have R6 := Lib.hid (obj_below R5.out hb6.out (heap_lt R5.out))
    have B6 := Lib.hid (B5.out.trans (hb6.out.mono B5.out.size))
    have Z5 := Lib.hid hz5
    have Z2 := Lib.hid (Z2.out.below hb6.out)
    clear hz5
    try simp only [pu, pa, pz, ps]
    refine wpAnyH_ready (rs := [17]) (by kernel_rfl) (by simp) ?_
    refine AllReadyH.cons (o := ⟨_, _, _, _, _, _⟩) rfl (fun K hK => ?_) AllReadyH.nil
    go_simp
    refine (nnf_bin 15 _ _ _ _ _ (by unfold I64; omega) Z2.out Z5.out).mono ?_; rintro r v7 ⟨z6, rfl, hz6, hb⟩; have hb7 := Lib.hid hb; clear hb
    go_wp2_with fail
    refine hK.out _ _ ?_ (fun hHeld => ?_)
    · (try dsimp only); exact hHeld.below hb7.out
    clear hK K
    have R7 := Lib.hid (obj_below R6.out hb7.out (heap_lt R6.out))
    have B7 := Lib.hid (B6.out.trans (hb7.out.mono B6.out.size))
    have Z6 := Lib.hid hz6
    clear hz6
    obtain ⟨a, k, c, hzf⟩ := ex_form Z6.out
    rw [hzf] at Z6
    rw [hzf]
    clear hzf
    obtain ⟨f0, f1, f2, f3, f4⟩ := frozen5 R7.out
    obtain ⟨g0, g1, g2, g3, g4⟩ := boxed_ex5 R7.out
    have yr := heap_lt R7.out
    try simp only [pu, pa, pz, ps]
    refine wpAnyH_ready (rs := [18]) (by kernel_rfl) (by simp) ?_
    refine AllReadyH.cons (o := ⟨_, _, _, _, _, _⟩) rfl (fun K hK => ?_) AllReadyH.nil
    go_simp
    refine hK.out _ _ ?_ (fun hHeld => ?_)
    · (try dsimp only); exact hHeld.sets (by omega) HN.out.1 HN.out.2 (by omega) _ _ _ _ _
    clear hK K
    try simp only [pu, pa, pz, ps]
    refine wpAnyH_done (by kernel_rfl) ?_ _
    clear hHeld
    go_wp2_with fail
    obtain ⟨y, hy⟩ : ∃ y, binE 15 (binE 14 Aa Bb) (binE 14 Cc Dd) = y := ⟨_, rfl⟩
    rw [hy] at Z6 HZ ⊢
    obtain ⟨w5, hW5, oo, HE, HB3⟩ := store_ex R7.out Z6.out HZ.out B7.out (by omega)
    rw [← hW5]
    obtain ⟨e0, e1, e2, e3, e4⟩ := boxed_ex5 oo
    refine bodyPost_ret (by simp [results, Tryd.results45, go_sem, e0, e1, e2, e3, e4]; try rfl) rfl ?_
    exact ⟨_, rfl, HE, HB3⟩
set_option maxRecDepth 100000 in
set_option maxHeartbeats 8000000 in
theorem norm_pt20 (x y Aa Bb Cc Dd : Ex) (m : Int) (hj : jun m = false) (q20 : (m == 20) = true) (g : Nat) (ty : TypeId) (hz : noZ (binE 15 (binE 14 Aa Bb) (binE 14 Cc Dd)) = true) (HAa : ∀ w v, ExV w v x → FnAt g ty w → Calls Tryd.prog 45 #[v, .bool false, .pointer (some ⟨g, 0, none⟩)] w fun r w' => ∃ z, r = .returned z ∧ ExV w' z Aa ∧ Below w.heap.size w w') (HBb : ∀ w v, ExV w v y → FnAt g ty w → Calls Tryd.prog 45 #[v, .bool true, .pointer (some ⟨g, 0, none⟩)] w fun r w' => ∃ z, r = .returned z ∧ ExV w' z Bb ∧ Below w.heap.size w w') (HCc : ∀ w v, ExV w v x → FnAt g ty w → Calls Tryd.prog 45 #[v, .bool true, .pointer (some ⟨g, 0, none⟩)] w fun r w' => ∃ z, r = .returned z ∧ ExV w' z Cc ∧ Below w.heap.size w w') (HDd : ∀ w v, ExV w v y → FnAt g ty w → Calls Tryd.prog 45 #[v, .bool false, .pointer (some ⟨g, 0, none⟩)] w fun r w' => ∃ z, r = .returned z ∧ ExV w' z Dd ∧ Below w.heap.size w w') (w : World) (v : Value) (hv : ExV w v ⟨7, 0, 0, m, [x, y]⟩) (hF : FnAt g ty w) :
    Calls Tryd.prog 45 #[v, .bool true, .pointer (some ⟨g, 0, none⟩)] w fun r w' => ∃ z, r = .returned z ∧ ExV w' z (binE 15 (binE 14 Aa Bb) (binE 14 Cc Dd)) ∧ Below w.heap.size w w' := by
  have hmI : I64 m := by obtain ⟨_, _, hi, _⟩ := hv; exact hi.2.2.2
  have HNot := Lib.hid (fun W (hb : Below w.heap.size w W) => nnf_not _ W v (hv.below hb))
  have HBoth := Lib.hid (fun W (hb : Below w.heap.size w W) => nnf_both _ W v (hv.below hb))
  have HJ := Lib.hid (fun W => nnf_junction m W)
  rw [notB_bin] at HNot
  rw [bothB_bin] at HBoth
  rw [hj] at HJ
  have HM := Lib.hid hmI
  have HZ := Lib.hid hz
  clear hj hmI hz
  have HAa := Lib.hid HAa
  have HBb := Lib.hid HBb
  have HCc := Lib.hid HCc
  have HDd := Lib.hid HDd
  obtain ⟨sl, rfl, hr, hrow⟩ := hv
  simp only at hrow
  obtain ⟨sa, sc, rfl⟩ := row_get hrow
  obtain ⟨bx, ox, ss, sn, sc2, rfl, hbx, q1, q2, d0, d1, d2, d3, d4, dV⟩ := ex_at hrow (k := 0) (x := x) rfl
  obtain ⟨_, _, ss', sn', sc2', hh, _, _, _, d5, d6, d7, d8, d9, dV'⟩ := ex_at hrow (k := 1) (x := y) rfl
  obtain ⟨rfl, rfl⟩ : bx = _ ∧ ox = _ := by injection hh with hh; injection hh with h1 h2; exact ⟨h1, h2⟩
  have hl2 : ([x, y] : List Ex).length = 2 := rfl
  rw [hl2]
  clear hh
  obtain ⟨W0, hW0⟩ : ∃ W0, W0 = (w.alloc (.cells #[.int .i64 7, .int .i64 0, .int .i64 0, .int .i64 m, .slice (some ⟨bx, ox, none⟩) 2 sc] 37)).alloc (.cells #[.int .i64 0, .int .i64 0, .int .i64 0, .int .i64 0, .slice none 0 0] 37) := ⟨_, rfl⟩
  have oE : W0.heap[w.heap.size]? = some (.cells #[.int .i64 7, .int .i64 0, .int .i64 0, .int .i64 m, .slice (some ⟨bx, ox, none⟩) 2 sc] 37) := by rw [hW0]; exact (get_past (by simp)).trans (get_last rfl)
  have oR : W0.heap[w.heap.size + 1]? = some (.cells #[.int .i64 0, .int .i64 0, .int .i64 0, .int .i64 0, .slice none 0 0] 37) := by rw [hW0]; exact get_last (by simp)
  have hbw : Below w.heap.size w W0 := by rw [hW0]; exact by (repeat' (first | (with_reducible exact Below.refl _ _) | (with_reducible assumption) | (with_reducible refine below_drewN ?_ _) | (with_reducible refine Below.alloc ?_ ?_ _) | (with_reducible refine Below.drew ?_) | (with_reducible refine Below.setCell ?_ ?_ _) | go_size))
  have HW0 := Lib.hid hW0
  have HVx := Lib.hid (fun W (hb : Below w.heap.size w W) => dV.below hb)
  have HVy := Lib.hid (fun W (hb : Below w.heap.size w W) => dV'.below hb)
  obtain ⟨yo, yt, yn, ym, yl⟩ := y
  obtain ⟨xo, xt, xn, xm, xl⟩ := x
  replace d0 : w.cell? ⟨bx, ox, none⟩ = some (.int .i64 xo) := by simpa using d0
  replace d1 : w.cell? ⟨bx, ox + 1, none⟩ = some (.int .i64 xt) := by simpa using d1
  replace d2 : w.cell? ⟨bx, ox + 2, none⟩ = some (.int .i64 xn) := by simpa using d2
  replace d3 : w.cell? ⟨bx, ox + 3, none⟩ = some (.int .i64 xm) := by simpa using d3
  replace d4 : w.cell? ⟨bx, ox + 4, none⟩ = some (.slice ss sn sc2) := by simpa using d4
  replace d5 : w.cell? ⟨bx, ox + 5, none⟩ = some (.int .i64 yo) := by simpa using d5
  replace d6 : w.cell? ⟨bx, ox + 5 + 1, none⟩ = some (.int .i64 yt) := by simpa using d6
  replace d7 : w.cell? ⟨bx, ox + 5 + 2, none⟩ = some (.int .i64 yn) := by simpa using d7
  replace d8 : w.cell? ⟨bx, ox + 5 + 3, none⟩ = some (.int .i64 ym) := by simpa using d8
  replace d9 : w.cell? ⟨bx, ox + 5 + 4, none⟩ = some (.slice ss' sn' sc2') := by simpa using d9
  have D := Lib.hid (And.intro d0 (And.intro d1 (And.intro d2 (And.intro d3 (And.intro d4 (And.intro d5 (And.intro d6 (And.intro d7 (And.intro d8 d9)))))))))
  have HBX := Lib.hid hbx
  have HF := Lib.hid hF
  have HOE := Lib.hid oE
  have HOR := Lib.hid oR
  have HB0 := Lib.hid hbw
  have mixed : Tryd.prog.follows .mixedOrders = true := by kernel_rfl
  clear hW0 oE oR hbw dV dV' hr hrow q1 q2 hF d0 d1 d2 d3 d4 d5 d6 d7 d8 d9 hbx
  rw [hl2] at HNot HBoth
  clear hl2
  go_enter Tryd.func45, Tryd.ntmps45
  go_wp2_with fail
  refine (HNot.out _ (by (repeat' (first | (with_reducible exact Below.refl _ _) | (with_reducible assumption) | (with_reducible refine below_drewN ?_ _) | (with_reducible refine Below.alloc ?_ ?_ _) | (with_reducible refine Below.drew ?_) | (with_reducible refine Below.setCell ?_ ?_ _) | go_size)))).mono ?_; rintro r w1 ⟨rfl, hb1⟩
  rw [← HW0.out] at hb1
  have E1 := Lib.hid (obj_below HOE.out hb1 (heap_lt HOE.out))
  have R1 := Lib.hid (obj_below HOR.out hb1 (heap_lt HOR.out))
  have B1 := Lib.hid (HB0.out.trans (hb1.mono HB0.out.size))
  clear hb1
  obtain ⟨e0, e1, e2, e3, e4⟩ := boxed_ex5 E1.out
  have ye := heap_lt E1.out
  go_wp2_with fail
  refine (HBoth.out _ B1.out).mono ?_; rintro r w2 ⟨rfl, hb2⟩
  have E2 := Lib.hid (obj_below E1.out hb2 (heap_lt E1.out))
  have R2 := Lib.hid (obj_below R1.out hb2 (heap_lt R1.out))
  have B2 := Lib.hid (B1.out.trans (hb2.mono B1.out.size))
  clear e0 e1 e2 e3 e4 ye hb2
  obtain ⟨e0, e1, e2, e3, e4⟩ := boxed_ex5 E2.out
  have ye := heap_lt E2.out
  obtain ⟨d0, d1, d2, d3, d4, d5, d6, d7, d8, d9⟩ := D.out
  have hbx := HBX.out
  have c0 : w2.cell? ⟨bx, ox, none⟩ = some (.int .i64 xo) := (B2.out.cell (p := ⟨bx, ox, none⟩) hbx).trans d0
  have c1 : w2.cell? ⟨bx, ox + 1, none⟩ = some (.int .i64 xt) := (B2.out.cell (p := ⟨bx, ox + 1, none⟩) hbx).trans d1
  have c2 : w2.cell? ⟨bx, ox + 2, none⟩ = some (.int .i64 xn) := (B2.out.cell (p := ⟨bx, ox + 2, none⟩) hbx).trans d2
  have c3 : w2.cell? ⟨bx, ox + 3, none⟩ = some (.int .i64 xm) := (B2.out.cell (p := ⟨bx, ox + 3, none⟩) hbx).trans d3
  have c4 : w2.cell? ⟨bx, ox + 4, none⟩ = some (.slice ss sn sc2) := (B2.out.cell (p := ⟨bx, ox + 4, none⟩) hbx).trans d4
  have c5 : w2.cell? ⟨bx, ox + 5, none⟩ = some (.int .i64 yo) := (B2.out.cell (p := ⟨bx, ox + 5, none⟩) hbx).trans d5
  have c6 : w2.cell? ⟨bx, ox + 5 + 1, none⟩ = some (.int .i64 yt) := (B2.out.cell (p := ⟨bx, ox + 5 + 1, none⟩) hbx).trans d6
  have c7 : w2.cell? ⟨bx, ox + 5 + 2, none⟩ = some (.int .i64 yn) := (B2.out.cell (p := ⟨bx, ox + 5 + 2, none⟩) hbx).trans d7
  have c8 : w2.cell? ⟨bx, ox + 5 + 3, none⟩ = some (.int .i64 ym) := (B2.out.cell (p := ⟨bx, ox + 5 + 3, none⟩) hbx).trans d8
  have c9 : w2.cell? ⟨bx, ox + 5 + 4, none⟩ = some (.slice ss' sn' sc2') := (B2.out.cell (p := ⟨bx, ox + 5 + 4, none⟩) hbx).trans d9
  have yb : bx < w2.heap.size := Nat.lt_of_lt_of_le hbx B2.out.size
  clear d0 d1 d2 d3 d4 d5 d6 d7 d8 d9 hbx
  go_wp2_with fail
  have qq0 := fun wt (h : Below w2.heap.size w2 wt) => cellB h e0 ye
  have qq1 := fun wt (h : Below w2.heap.size w2 wt) => cellB h e1 ye
  have qq2 := fun wt (h : Below w2.heap.size w2 wt) => cellB h e2 ye
  have qq3 := fun wt (h : Below w2.heap.size w2 wt) => cellB h e3 ye
  have qq4 := fun wt (h : Below w2.heap.size w2 wt) => cellB h e4 ye
  have qq5 := fun wt (h : Below w2.heap.size w2 wt) => cellB h c0 yb
  have qq6 := fun wt (h : Below w2.heap.size w2 wt) => cellB h c1 yb
  have qq7 := fun wt (h : Below w2.heap.size w2 wt) => cellB h c2 yb
  have qq8 := fun wt (h : Below w2.heap.size w2 wt) => cellB h c3 yb
  have qq9 := fun wt (h : Below w2.heap.size w2 wt) => cellB h c4 yb
  have qq10 := fun wt (h : Below w2.heap.size w2 wt) => cellB h c5 yb
  have qq11 := fun wt (h : Below w2.heap.size w2 wt) => cellB h c6 yb
  have qq12 := fun wt (h : Below w2.heap.size w2 wt) => cellB h c7 yb
  have qq13 := fun wt (h : Below w2.heap.size w2 wt) => cellB h c8 yb
  have qq14 := fun wt (h : Below w2.heap.size w2 wt) => cellB h c9 yb
  refine wp_region_held_drew (S := (fun w' => Below w2.heap.size w2 w')) (by kernel_rfl) ?_ (fun hHeld => ?_)
  · (try dsimp only); first | assumption | exact Below.alloc hHeld hHeld.size _ | exact (Below.refl _ _).drew | exact Below.drew (Below.refl _ _) | exact Below_drewN _ _ _ | exact Below.refl _ _
  refine tk 0 (v := ?_) (hy := ?_) (h := ?_); rotate_left
  · intro _ _; go_simp <;> with_reducible rfl
  try simp only [pu, pa, pz, ps]
  refine tk 1 (v := ?_) (hy := ?_) (h := ?_); rotate_left
  · intro wt hSw; (try dsimp only at hSw); go_simp <;> with_reducible rfl
  try simp only [pu, pa, pz, ps]
  refine tk 2 (v := ?_) (hy := ?_) (h := ?_); rotate_left
  · intro _ _; go_simp <;> with_reducible rfl
  try simp only [pu, pa, pz, ps]
  refine tk 3 (v := ?_) (hy := ?_) (h := ?_); rotate_left
  · intro wt hSw; (try dsimp only at hSw); go_simp <;> with_reducible rfl
  try simp only [pu, pa, pz, ps]
  refine tk 4 (v := ?_) (hy := ?_) (h := ?_); rotate_left
  · intro _ _; go_simp <;> with_reducible rfl
  try simp only [pu, pa, pz, ps]
  refine tk 5 (v := ?_) (hy := ?_) (h := ?_); rotate_left
  · intro wt hSw; (try dsimp only at hSw); go_simp <;> with_reducible rfl
  try simp only [pu, pa, pz, ps]
  refine tk 6 (v := ?_) (hy := ?_) (h := ?_); rotate_left
  · intro _ _; go_simp <;> with_reducible rfl
  try simp only [pu, pa, pz, ps]
  refine tk 7 (v := ?_) (hy := ?_) (h := ?_); rotate_left
  · intro wt hSw; (try dsimp only at hSw); go_simp <;> with_reducible rfl
  try simp only [pu, pa, pz, ps]
  refine wpAnyH_ready (rs := [8, 9]) (by kernel_rfl) (by simp) ?_
  refine AllReadyH.cons (o := ⟨_, _, _, _, _, _⟩) rfl (fun K hK => ?_) (AllReadyH.cons (o := ⟨_, _, _, _, _, _⟩) rfl (fun K hK => ?_) (AllReadyH.nil))
  go_simp
  refine hK.out _ _ ?_ (fun hHeld => ?_)
  · (try dsimp only); first | assumption | exact Below.alloc hHeld hHeld.size _ | exact (Below.refl _ _).drew | exact Below.drew (Below.refl _ _) | exact Below_drewN _ _ _ | exact Below.refl _ _
  clear hK K
  try simp only [pu, pa, pz, ps]
  refine wpAnyH_ready (rs := [9]) (by kernel_rfl) (by simp) ?_
  refine AllReadyH.cons (o := ⟨_, _, _, _, _, _⟩) rfl (fun K hK => ?_) AllReadyH.nil
  go_simp
  refine hK.out _ _ ?_ (fun hHeld => ?_)
  · (try dsimp only); first | assumption | exact Below.alloc hHeld hHeld.size _ | exact (Below.refl _ _).drew | exact Below.drew (Below.refl _ _) | exact Below_drewN _ _ _ | exact Below.refl _ _
  clear hK K
  try simp only [pu, pa, pz, ps]
  refine wpAnyH_ready (rs := [10]) (by kernel_rfl) (by simp) ?_
  refine AllReadyH.cons (o := ⟨_, _, _, _, _, _⟩) rfl (fun K hK => ?_) AllReadyH.nil
  go_simp
  refine hK.out _ _ ?_ (fun hHeld => ?_)
  · (try dsimp only); exact by (repeat' (first | (with_reducible exact Below.refl _ _) | (with_reducible assumption) | (with_reducible refine below_drewN ?_ _) | (with_reducible refine Below.alloc ?_ ?_ _) | (with_reducible refine Below.drew ?_) | (with_reducible refine Below.setCell ?_ ?_ _) | go_size))
  clear hK K
  try simp only [pu, pa, pz, ps]
  refine wpAnyH_ready (rs := [11]) (by kernel_rfl) (by simp) ?_
  refine AllReadyH.cons (o := ⟨_, _, _, _, _, _⟩) rfl (fun K hK => ?_) AllReadyH.nil
  go_simp
  refine hK.out _ _ ?_ (fun hHeld => ?_)
  · (try dsimp only); exact by (repeat' (first | (with_reducible exact Below.refl _ _) | (with_reducible assumption) | (with_reducible refine below_drewN ?_ _) | (with_reducible refine Below.alloc ?_ ?_ _) | (with_reducible refine Below.drew ?_) | (with_reducible refine Below.setCell ?_ ?_ _) | go_size))
  clear hK K
  try simp only [pu, pa, pz, ps]
  refine wpAnyH_done (by kernel_rfl) ?_ _
  have OA := Lib.hid (show (((w2.alloc (.cells #[.int .i64 xo, .int .i64 xt, .int .i64 xn, .int .i64 xm, .slice ss sn sc2] 37)).alloc (.cells #[.int .i64 yo, .int .i64 yt, .int .i64 yn, .int .i64 ym, .slice ss' sn' sc2'] 37)).drew).heap[w2.heap.size]? = some (.cells #[.int .i64 xo, .int .i64 xt, .int .i64 xn, .int .i64 xm, .slice ss sn sc2] 37) from (get_past (by simp)).trans (get_last rfl))
  have OB := Lib.hid (show (((w2.alloc (.cells #[.int .i64 xo, .int .i64 xt, .int .i64 xn, .int .i64 xm, .slice ss sn sc2] 37)).alloc (.cells #[.int .i64 yo, .int .i64 yt, .int .i64 yn, .int .i64 ym, .slice ss' sn' sc2'] 37)).drew).heap[w2.heap.size + 1]? = some (.cells #[.int .i64 yo, .int .i64 yt, .int .i64 yn, .int .i64 ym, .slice ss' sn' sc2'] 37) from get_last (by simp))
  have hb5 : Below w2.heap.size w2 (((w2.alloc (.cells #[.int .i64 xo, .int .i64 xt, .int .i64 xn, .int .i64 xm, .slice ss sn sc2] 37)).alloc (.cells #[.int .i64 yo, .int .i64 yt, .int .i64 yn, .int .i64 ym, .slice ss' sn' sc2'] 37)).drew) := by (repeat' (first | (with_reducible exact Below.refl _ _) | (with_reducible assumption) | (with_reducible refine below_drewN ?_ _) | (with_reducible refine Below.alloc ?_ ?_ _) | (with_reducible refine Below.drew ?_) | (with_reducible refine Below.setCell ?_ ?_ _) | go_size))
  generalize hW5 : ((w2.alloc (.cells #[.int .i64 xo, .int .i64 xt, .int .i64 xn, .int .i64 xm, .slice ss sn sc2] 37)).alloc (.cells #[.int .i64 yo, .int .i64 yt, .int .i64 yn, .int .i64 ym, .slice ss' sn' sc2'] 37)).drew = w5 at *
  clear hHeld hW5 e0 e1 e2 e3 e4 ye yb c0 c1 c2 c3 c4 c5 c6 c7 c8 c9
  have E5 := Lib.hid (obj_below E2.out hb5 (heap_lt E2.out))
  have R5 := Lib.hid (obj_below R2.out hb5 (heap_lt R2.out))
  have B5 := Lib.hid (B2.out.trans (hb5.mono B2.out.size))
  have n2 : w.heap.size + 1 ≠ w2.heap.size := by have := heap_lt R2.out; omega
  have n3 : w.heap.size + 1 ≠ w2.heap.size + 1 := by have := heap_lt R2.out; omega
  have HN := Lib.hid (And.intro n2 n3)
  clear n2 n3 hb5 E2 R2 B2 HOE HOR HB0 HW0 E1 R1 B1
  generalize w2.heap.size + 1 = qb at *
  generalize w2.heap.size = qa at *
  rotate_left
  go_simp
  refine hK.out _ _ ?_ (fun hHeld => ?_)
  · (try dsimp only); first | assumption | exact Below.alloc hHeld hHeld.size _ | exact (Below.refl _ _).drew | exact Below.drew (Below.refl _ _) | exact Below_drewN _ _ _ | exact Below.refl _ _
  clear hK K
  try simp only [pu, pa, pz, ps]
  refine wpAnyH_ready (rs := [8]) (by kernel_rfl) (by simp) ?_
  refine AllReadyH.cons (o := ⟨_, _, _, _, _, _⟩) rfl (fun K hK => ?_) AllReadyH.nil
  go_simp
  refine hK.out _ _ ?_ (fun hHeld => ?_)
  · (try dsimp only); first | assumption | exact Below.alloc hHeld hHeld.size _ | exact (Below.refl _ _).drew | exact Below.drew (Below.refl _ _) | exact Below_drewN _ _ _ | exact Below.refl _ _
  clear hK K
  try simp only [pu, pa, pz, ps]
  refine wpAnyH_ready (rs := [10]) (by kernel_rfl) (by simp) ?_
  refine AllReadyH.cons (o := ⟨_, _, _, _, _, _⟩) rfl (fun K hK => ?_) AllReadyH.nil
  go_simp
  refine hK.out _ _ ?_ (fun hHeld => ?_)
  · (try dsimp only); exact by (repeat' (first | (with_reducible exact Below.refl _ _) | (with_reducible assumption) | (with_reducible refine below_drewN ?_ _) | (with_reducible refine Below.alloc ?_ ?_ _) | (with_reducible refine Below.drew ?_) | (with_reducible refine Below.setCell ?_ ?_ _) | go_size))
  clear hK K
  try simp only [pu, pa, pz, ps]
  refine wpAnyH_ready (rs := [11]) (by kernel_rfl) (by simp) ?_
  refine AllReadyH.cons (o := ⟨_, _, _, _, _, _⟩) rfl (fun K hK => ?_) AllReadyH.nil
  go_simp
  refine hK.out _ _ ?_ (fun hHeld => ?_)
  · (try dsimp only); exact by (repeat' (first | (with_reducible exact Below.refl _ _) | (with_reducible assumption) | (with_reducible refine below_drewN ?_ _) | (with_reducible refine Below.alloc ?_ ?_ _) | (with_reducible refine Below.drew ?_) | (with_reducible refine Below.setCell ?_ ?_ _) | go_size))
  clear hK K
  try simp only [pu, pa, pz, ps]
  refine wpAnyH_done (by kernel_rfl) ?_ _
  have OB := Lib.hid (show (((w2.alloc (.cells #[.int .i64 yo, .int .i64 yt, .int .i64 yn, .int .i64 ym, .slice ss' sn' sc2'] 37)).alloc (.cells #[.int .i64 xo, .int .i64 xt, .int .i64 xn, .int .i64 xm, .slice ss sn sc2] 37)).drew).heap[w2.heap.size]? = some (.cells #[.int .i64 yo, .int .i64 yt, .int .i64 yn, .int .i64 ym, .slice ss' sn' sc2'] 37) from (get_past (by simp)).trans (get_last rfl))
  have OA := Lib.hid (show (((w2.alloc (.cells #[.int .i64 yo, .int .i64 yt, .int .i64 yn, .int .i64 ym, .slice ss' sn' sc2'] 37)).alloc (.cells #[.int .i64 xo, .int .i64 xt, .int .i64 xn, .int .i64 xm, .slice ss sn sc2] 37)).drew).heap[w2.heap.size + 1]? = some (.cells #[.int .i64 xo, .int .i64 xt, .int .i64 xn, .int .i64 xm, .slice ss sn sc2] 37) from get_last (by simp))
  have hb5 : Below w2.heap.size w2 (((w2.alloc (.cells #[.int .i64 yo, .int .i64 yt, .int .i64 yn, .int .i64 ym, .slice ss' sn' sc2'] 37)).alloc (.cells #[.int .i64 xo, .int .i64 xt, .int .i64 xn, .int .i64 xm, .slice ss sn sc2] 37)).drew) := by (repeat' (first | (with_reducible exact Below.refl _ _) | (with_reducible assumption) | (with_reducible refine below_drewN ?_ _) | (with_reducible refine Below.alloc ?_ ?_ _) | (with_reducible refine Below.drew ?_) | (with_reducible refine Below.setCell ?_ ?_ _) | go_size))
  generalize hW5 : ((w2.alloc (.cells #[.int .i64 yo, .int .i64 yt, .int .i64 yn, .int .i64 ym, .slice ss' sn' sc2'] 37)).alloc (.cells #[.int .i64 xo, .int .i64 xt, .int .i64 xn, .int .i64 xm, .slice ss sn sc2] 37)).drew = w5 at *
  clear hHeld hW5 e0 e1 e2 e3 e4 ye yb c0 c1 c2 c3 c4 c5 c6 c7 c8 c9
  have E5 := Lib.hid (obj_below E2.out hb5 (heap_lt E2.out))
  have R5 := Lib.hid (obj_below R2.out hb5 (heap_lt R2.out))
  have B5 := Lib.hid (B2.out.trans (hb5.mono B2.out.size))
  have n2 : w.heap.size + 1 ≠ w2.heap.size + 1 := by have := heap_lt R2.out; omega
  have n3 : w.heap.size + 1 ≠ w2.heap.size := by have := heap_lt R2.out; omega
  have HN := Lib.hid (And.intro n2 n3)
  clear n2 n3 hb5 E2 R2 B2 HOE HOR HB0 HW0 E1 R1 B1
  generalize w2.heap.size + 1 = qa at *
  generalize w2.heap.size = qb at *
  all_goals
    have e3 := obj_cell E5.out (i := 3) rfl
    have ye := heap_lt E5.out
    go_wp2_with fail
    refine (HJ.out _).mono ?_; rintro r v0 ⟨rfl, hv0⟩; rw [hv0]; clear hv0
    go_wp2_with fail
    clear e3 ye
    have R0 := Lib.hid (show w5.drew.heap[w.heap.size + 1]? = _ from R5.out)
    have B0 := Lib.hid (show Below w.heap.size w w5.drew from B5.out.drew)
    have hT0 : Kept w.heap.size qa qb _ _ _ w w5.drew := ⟨⟨E5.out, OA.out, OB.out⟩, B0.out⟩
    clear E5 OA OB R5 B5
    refine wp_region_held_drew (S := (fun w' => Kept w.heap.size qa qb (.cells #[.int .i64 7, .int .i64 0, .int .i64 0, .int .i64 m, .slice (some ⟨bx, ox, none⟩) 2 sc] 37) (.cells #[.int .i64 xo, .int .i64 xt, .int .i64 xn, .int .i64 xm, .slice ss sn sc2] 37) (.cells #[.int .i64 yo, .int .i64 yt, .int .i64 yn, .int .i64 ym, .slice ss' sn' sc2'] 37) w w')) (by kernel_rfl) ?_ (fun hHeld => ?_)
    · (try dsimp only); exact hT0
    refine tk 0 (v := ?_) (hy := ?_) (h := ?_); rotate_left
    · intro wt hSw; (try dsimp only at hSw); have e3 := obj_cell hSw.o.e (i := 3) rfl; obtain ⟨a0, a1, a2, a3, a4⟩ := boxed_ex5 hSw.o.a; obtain ⟨b0, b1, b2, b3, b4⟩ := boxed_ex5 hSw.o.b; have za := heap_lt hSw.o.a; have zb := heap_lt hSw.o.b; have cF := obj_cell (obj_below HF.out hSw.b (heap_lt HF.out)) (i := 0) rfl; have yF := Nat.lt_of_lt_of_le (heap_lt HF.out) hSw.b.size; go_simp <;> with_reducible rfl
    try simp only [pu, pa, pz, ps]
    refine tk 1 (v := ?_) (hy := ?_) (h := ?_); rotate_left
    · intro wt hSw; (try dsimp only at hSw); have e3 := obj_cell hSw.o.e (i := 3) rfl; obtain ⟨a0, a1, a2, a3, a4⟩ := boxed_ex5 hSw.o.a; obtain ⟨b0, b1, b2, b3, b4⟩ := boxed_ex5 hSw.o.b; have za := heap_lt hSw.o.a; have zb := heap_lt hSw.o.b; have cF := obj_cell (obj_below HF.out hSw.b (heap_lt HF.out)) (i := 0) rfl; have yF := Nat.lt_of_lt_of_le (heap_lt HF.out) hSw.b.size; go_simp <;> with_reducible rfl
    try simp only [pu, pa, pz, ps]
    refine tk 3 (v := ?_) (hy := ?_) (h := ?_); rotate_left
    · intro wt hSw; (try dsimp only at hSw); have e3 := obj_cell hSw.o.e (i := 3) rfl; obtain ⟨a0, a1, a2, a3, a4⟩ := boxed_ex5 hSw.o.a; obtain ⟨b0, b1, b2, b3, b4⟩ := boxed_ex5 hSw.o.b; have za := heap_lt hSw.o.a; have zb := heap_lt hSw.o.b; have cF := obj_cell (obj_below HF.out hSw.b (heap_lt HF.out)) (i := 0) rfl; have yF := Nat.lt_of_lt_of_le (heap_lt HF.out) hSw.b.size; go_simp <;> with_reducible rfl
    try simp only [pu, pa, pz, ps]
    refine tk 4 (v := ?_) (hy := ?_) (h := ?_); rotate_left
    · intro wt hSw; (try dsimp only at hSw); have e3 := obj_cell hSw.o.e (i := 3) rfl; obtain ⟨a0, a1, a2, a3, a4⟩ := boxed_ex5 hSw.o.a; obtain ⟨b0, b1, b2, b3, b4⟩ := boxed_ex5 hSw.o.b; have za := heap_lt hSw.o.a; have zb := heap_lt hSw.o.b; have cF := obj_cell (obj_below HF.out hSw.b (heap_lt HF.out)) (i := 0) rfl; have yF := Nat.lt_of_lt_of_le (heap_lt HF.out) hSw.b.size; go_simp <;> with_reducible rfl
    try simp only [pu, pa, pz, ps]
    refine tk 5 (v := ?_) (hy := ?_) (h := ?_); rotate_left
    · intro _ _; go_simp <;> with_reducible rfl
    try simp only [pu, pa, pz, ps]
    refine tk 8 (v := ?_) (hy := ?_) (h := ?_); rotate_left
    · intro wt hSw; (try dsimp only at hSw); have e3 := obj_cell hSw.o.e (i := 3) rfl; obtain ⟨a0, a1, a2, a3, a4⟩ := boxed_ex5 hSw.o.a; obtain ⟨b0, b1, b2, b3, b4⟩ := boxed_ex5 hSw.o.b; have za := heap_lt hSw.o.a; have zb := heap_lt hSw.o.b; have cF := obj_cell (obj_below HF.out hSw.b (heap_lt HF.out)) (i := 0) rfl; have yF := Nat.lt_of_lt_of_le (heap_lt HF.out) hSw.b.size; go_simp <;> with_reducible rfl
    try simp only [pu, pa, pz, ps]
    refine tk 9 (v := ?_) (hy := ?_) (h := ?_); rotate_left
    · intro wt hSw; (try dsimp only at hSw); have e3 := obj_cell hSw.o.e (i := 3) rfl; obtain ⟨a0, a1, a2, a3, a4⟩ := boxed_ex5 hSw.o.a; obtain ⟨b0, b1, b2, b3, b4⟩ := boxed_ex5 hSw.o.b; have za := heap_lt hSw.o.a; have zb := heap_lt hSw.o.b; have cF := obj_cell (obj_below HF.out hSw.b (heap_lt HF.out)) (i := 0) rfl; have yF := Nat.lt_of_lt_of_le (heap_lt HF.out) hSw.b.size; go_simp <;> with_reducible rfl
    try simp only [pu, pa, pz, ps]
    refine tk 11 (v := ?_) (hy := ?_) (h := ?_); rotate_left
    · intro wt hSw; (try dsimp only at hSw); have e3 := obj_cell hSw.o.e (i := 3) rfl; obtain ⟨a0, a1, a2, a3, a4⟩ := boxed_ex5 hSw.o.a; obtain ⟨b0, b1, b2, b3, b4⟩ := boxed_ex5 hSw.o.b; have za := heap_lt hSw.o.a; have zb := heap_lt hSw.o.b; have cF := obj_cell (obj_below HF.out hSw.b (heap_lt HF.out)) (i := 0) rfl; have yF := Nat.lt_of_lt_of_le (heap_lt HF.out) hSw.b.size; go_simp <;> with_reducible rfl
    try simp only [pu, pa, pz, ps]
    refine tk 12 (v := ?_) (hy := ?_) (h := ?_); rotate_left
    · intro wt hSw; (try dsimp only at hSw); have e3 := obj_cell hSw.o.e (i := 3) rfl; obtain ⟨a0, a1, a2, a3, a4⟩ := boxed_ex5 hSw.o.a; obtain ⟨b0, b1, b2, b3, b4⟩ := boxed_ex5 hSw.o.b; have za := heap_lt hSw.o.a; have zb := heap_lt hSw.o.b; have cF := obj_cell (obj_below HF.out hSw.b (heap_lt HF.out)) (i := 0) rfl; have yF := Nat.lt_of_lt_of_le (heap_lt HF.out) hSw.b.size; go_simp <;> with_reducible rfl
    try simp only [pu, pa, pz, ps]
    refine tk 13 (v := ?_) (hy := ?_) (h := ?_); rotate_left
    · intro _ _; go_simp <;> with_reducible rfl
    try simp only [pu, pa, pz, ps]
    refine tk 14 (v := ?_) (hy := ?_) (h := ?_); rotate_left
    · intro _ _; go_simp <;> with_reducible rfl
    try simp only [pu, pa, pz, ps]
    refine wpAnyH_ready (rs := [2]) (by kernel_rfl) (by simp) ?_
    refine AllReadyH.cons (o := ⟨_, _, _, _, _, _⟩) rfl (fun K hK => ?_) AllReadyH.nil
    go_simp
    refine (HAa.out _ _ (HVx.out _ B0.out) (obj_below HF.out B0.out (heap_lt HF.out))).mono ?_; rintro r v1 ⟨z0, rfl, hz0, hb⟩; have hb1 := Lib.hid hb; clear hb
    go_wp2_with fail
    refine hK.out _ _ ?_ (fun hHeld => ?_)
    · (try dsimp only); exact hHeld.below hb1.out
    clear hK K
    have R1 := Lib.hid (obj_below R0.out hb1.out (heap_lt R0.out))
    have B1 := Lib.hid (B0.out.trans (hb1.out.mono B0.out.size))
    have Z0 := Lib.hid hz0
    clear hz0
    try simp only [pu, pa, pz, ps]
    refine wpAnyH_ready (rs := [6]) (by kernel_rfl) (by simp) ?_
    refine AllReadyH.cons (o := ⟨_, _, _, _, _, _⟩) rfl (fun K hK => ?_) AllReadyH.nil
    go_simp
    refine (HBb.out _ _ (HVy.out _ B1.out) (obj_below HF.out B1.out (heap_lt HF.out))).mono ?_; rintro r v2 ⟨z1, rfl, hz1, hb⟩; have hb2 := Lib.hid hb; clear hb
    go_wp2_with fail
    refine hK.out _ _ ?_ (fun hHeld => ?_)
    · (try dsimp only); exact hHeld.below hb2.out
    clear hK K
    have R2 := Lib.hid (obj_below R1.out hb2.out (heap_lt R1.out))
    have B2 := Lib.hid (B1.out.trans (hb2.out.mono B1.out.size))
    have Z1 := Lib.hid hz1
    have Z0 := Lib.hid (Z0.out.below hb2.out)
    clear hz1
    try simp only [pu, pa, pz, ps]
    refine wpAnyH_ready (rs := [7]) (by kernel_rfl) (by simp) ?_
    refine AllReadyH.cons (o := ⟨_, _, _, _, _, _⟩) rfl (fun K hK => ?_) AllReadyH.nil
    go_simp
    refine (nnf_bin 14 _ _ _ _ _ (by unfold I64; omega) Z0.out Z1.out).mono ?_; rintro r v3 ⟨z2, rfl, hz2, hb⟩; have hb3 := Lib.hid hb; clear hb
    go_wp2_with fail
    refine hK.out _ _ ?_ (fun hHeld => ?_)
    · (try dsimp only); exact hHeld.below hb3.out
    clear hK K
    have R3 := Lib.hid (obj_below R2.out hb3.out (heap_lt R2.out))
    have B3 := Lib.hid (B2.out.trans (hb3.out.mono B2.out.size))
    have Z2 := Lib.hid hz2
    clear hz2
    try simp only [pu, pa, pz, ps]
    refine wpAnyH_ready (rs := [10]) (by kernel_rfl) (by simp) ?_
    refine AllReadyH.cons (o := ⟨_, _, _, _, _, _⟩) rfl (fun K hK => ?_) AllReadyH.nil
    go_simp
    refine (HCc.out _ _ (HVx.out _ B3.out) (obj_below HF.out B3.out (heap_lt HF.out))).mono ?_; rintro r v4 ⟨z3, rfl, hz3, hb⟩; have hb4 := Lib.hid hb; clear hb
    go_wp2_with fail
    refine hK.out _ _ ?_ (fun hHeld => ?_)
    · (try dsimp only); exact hHeld.below hb4.out
    clear hK K
    have R4 := Lib.hid (obj_below R3.out hb4.out (heap_lt R3.out))
    have B4 := Lib.hid (B3.out.trans (hb4.out.mono B3.out.size))
    have Z3 := Lib.hid hz3
    have Z2 := Lib.hid (Z2.out.below hb4.out)
    clear hz3
    try simp only [pu, pa, pz, ps]
    refine wpAnyH_ready (rs := [15]) (by kernel_rfl) (by simp) ?_
    refine AllReadyH.cons (o := ⟨_, _, _, _, _, _⟩) rfl (fun K hK => ?_) AllReadyH.nil
    go_simp
    refine (HDd.out _ _ (HVy.out _ B4.out) (obj_below HF.out B4.out (heap_lt HF.out))).mono ?_; rintro r v5 ⟨z4, rfl, hz4, hb⟩; have hb5 := Lib.hid hb; clear hb
    go_wp2_with fail
    refine hK.out _ _ ?_ (fun hHeld => ?_)
    · (try dsimp only); exact hHeld.below hb5.out
    clear hK K
    have R5 := Lib.hid (obj_below R4.out hb5.out (heap_lt R4.out))
    have B5 := Lib.hid (B4.out.trans (hb5.out.mono B4.out.size))
    have Z4 := Lib.hid hz4
    have Z2 := Lib.hid (Z2.out.below hb5.out)
    have Z3 := Lib.hid (Z3.out.below hb5.out)
    clear hz4
    try simp only [pu, pa, pz, ps]
    refine wpAnyH_ready (rs := [16]) (by kernel_rfl) (by simp) ?_
    refine AllReadyH.cons (o := ⟨_, _, _, _, _, _⟩) rfl (fun K hK => ?_) AllReadyH.nil
    go_simp
    refine (nnf_bin 14 _ _ _ _ _ (by unfold I64; omega) Z3.out Z4.out).mono ?_; rintro r v6 ⟨z5, rfl, hz5, hb⟩; have hb6 := Lib.hid hb; clear hb
    go_wp2_with fail
    refine hK.out _ _ ?_ (fun hHeld => ?_)
    · (try dsimp only); exact hHeld.below hb6.out
    clear hK K
    have R6 := Lib.hid (obj_below R5.out hb6.out (heap_lt R5.out))
    have B6 := Lib.hid (B5.out.trans (hb6.out.mono B5.out.size))
    have Z5 := Lib.hid hz5
    have Z2 := Lib.hid (Z2.out.below hb6.out)
    clear hz5
    try simp only [pu, pa, pz, ps]
    refine wpAnyH_ready (rs := [17]) (by kernel_rfl) (by simp) ?_
    refine AllReadyH.cons (o := ⟨_, _, _, _, _, _⟩) rfl (fun K hK => ?_) AllReadyH.nil
    go_simp
    refine (nnf_bin 15 _ _ _ _ _ (by unfold I64; omega) Z2.out Z5.out).mono ?_; rintro r v7 ⟨z6, rfl, hz6, hb⟩; have hb7 := Lib.hid hb; clear hb
    go_wp2_with fail
    refine hK.out _ _ ?_ (fun hHeld => ?_)
    · (try dsimp only); exact hHeld.below hb7.out
    clear hK K
    have R7 := Lib.hid (obj_below R6.out hb7.out (heap_lt R6.out))
    have B7 := Lib.hid (B6.out.trans (hb7.out.mono B6.out.size))
    have Z6 := Lib.hid hz6
    clear hz6
    obtain ⟨a, k, c, hzf⟩ := ex_form Z6.out
    rw [hzf] at Z6
    rw [hzf]
    clear hzf
    obtain ⟨f0, f1, f2, f3, f4⟩ := frozen5 R7.out
    obtain ⟨g0, g1, g2, g3, g4⟩ := boxed_ex5 R7.out
    have yr := heap_lt R7.out
    try simp only [pu, pa, pz, ps]
    refine wpAnyH_ready (rs := [18]) (by kernel_rfl) (by simp) ?_
    refine AllReadyH.cons (o := ⟨_, _, _, _, _, _⟩) rfl (fun K hK => ?_) AllReadyH.nil
    go_simp
    refine hK.out _ _ ?_ (fun hHeld => ?_)
    · (try dsimp only); exact hHeld.sets (by omega) HN.out.1 HN.out.2 (by omega) _ _ _ _ _
    clear hK K
    try simp only [pu, pa, pz, ps]
    refine wpAnyH_done (by kernel_rfl) ?_ _
    clear hHeld
    go_wp2_with fail
    obtain ⟨y, hy⟩ : ∃ y, binE 15 (binE 14 Aa Bb) (binE 14 Cc Dd) = y := ⟨_, rfl⟩
    rw [hy] at Z6 HZ ⊢
    obtain ⟨w5, hW5, oo, HE, HB3⟩ := store_ex R7.out Z6.out HZ.out B7.out (by omega)
    rw [← hW5]
    obtain ⟨e0, e1, e2, e3, e4⟩ := boxed_ex5 oo
    refine bodyPost_ret (by simp [results, Tryd.results45, go_sem, e0, e1, e2, e3, e4]; try rfl) rfl ?_
    exact ⟨_, rfl, HE, HB3⟩
set_option maxRecDepth 100000 in
set_option maxHeartbeats 8000000 in
theorem norm_pt (x y Aa Bb Cc Dd : Ex) (m : Int) (hj : jun m = false) (q20 : (m == 20) = false) (g : Nat) (ty : TypeId) (hz : noZ (binE 15 (binE 14 Aa Bb) (binE 14 Cc Dd)) = true) (HAa : ∀ w v, ExV w v x → FnAt g ty w → Calls Tryd.prog 45 #[v, .bool false, .pointer (some ⟨g, 0, none⟩)] w fun r w' => ∃ z, r = .returned z ∧ ExV w' z Aa ∧ Below w.heap.size w w') (HBb : ∀ w v, ExV w v y → FnAt g ty w → Calls Tryd.prog 45 #[v, .bool false, .pointer (some ⟨g, 0, none⟩)] w fun r w' => ∃ z, r = .returned z ∧ ExV w' z Bb ∧ Below w.heap.size w w') (HCc : ∀ w v, ExV w v x → FnAt g ty w → Calls Tryd.prog 45 #[v, .bool true, .pointer (some ⟨g, 0, none⟩)] w fun r w' => ∃ z, r = .returned z ∧ ExV w' z Cc ∧ Below w.heap.size w w') (HDd : ∀ w v, ExV w v y → FnAt g ty w → Calls Tryd.prog 45 #[v, .bool true, .pointer (some ⟨g, 0, none⟩)] w fun r w' => ∃ z, r = .returned z ∧ ExV w' z Dd ∧ Below w.heap.size w w') (w : World) (v : Value) (hv : ExV w v ⟨7, 0, 0, m, [x, y]⟩) (hF : FnAt g ty w) :
    Calls Tryd.prog 45 #[v, .bool true, .pointer (some ⟨g, 0, none⟩)] w fun r w' => ∃ z, r = .returned z ∧ ExV w' z (binE 15 (binE 14 Aa Bb) (binE 14 Cc Dd)) ∧ Below w.heap.size w w' := by
  have hmI : I64 m := by obtain ⟨_, _, hi, _⟩ := hv; exact hi.2.2.2
  have HNot := Lib.hid (fun W (hb : Below w.heap.size w W) => nnf_not _ W v (hv.below hb))
  have HBoth := Lib.hid (fun W (hb : Below w.heap.size w W) => nnf_both _ W v (hv.below hb))
  have HJ := Lib.hid (fun W => nnf_junction m W)
  rw [notB_bin] at HNot
  rw [bothB_bin] at HBoth
  rw [hj] at HJ
  have HM := Lib.hid hmI
  have HZ := Lib.hid hz
  clear hj hmI hz
  have HAa := Lib.hid HAa
  have HBb := Lib.hid HBb
  have HCc := Lib.hid HCc
  have HDd := Lib.hid HDd
  obtain ⟨sl, rfl, hr, hrow⟩ := hv
  simp only at hrow
  obtain ⟨sa, sc, rfl⟩ := row_get hrow
  obtain ⟨bx, ox, ss, sn, sc2, rfl, hbx, q1, q2, d0, d1, d2, d3, d4, dV⟩ := ex_at hrow (k := 0) (x := x) rfl
  obtain ⟨_, _, ss', sn', sc2', hh, _, _, _, d5, d6, d7, d8, d9, dV'⟩ := ex_at hrow (k := 1) (x := y) rfl
  obtain ⟨rfl, rfl⟩ : bx = _ ∧ ox = _ := by injection hh with hh; injection hh with h1 h2; exact ⟨h1, h2⟩
  have hl2 : ([x, y] : List Ex).length = 2 := rfl
  rw [hl2]
  clear hh
  obtain ⟨W0, hW0⟩ : ∃ W0, W0 = (w.alloc (.cells #[.int .i64 7, .int .i64 0, .int .i64 0, .int .i64 m, .slice (some ⟨bx, ox, none⟩) 2 sc] 37)).alloc (.cells #[.int .i64 0, .int .i64 0, .int .i64 0, .int .i64 0, .slice none 0 0] 37) := ⟨_, rfl⟩
  have oE : W0.heap[w.heap.size]? = some (.cells #[.int .i64 7, .int .i64 0, .int .i64 0, .int .i64 m, .slice (some ⟨bx, ox, none⟩) 2 sc] 37) := by rw [hW0]; exact (get_past (by simp)).trans (get_last rfl)
  have oR : W0.heap[w.heap.size + 1]? = some (.cells #[.int .i64 0, .int .i64 0, .int .i64 0, .int .i64 0, .slice none 0 0] 37) := by rw [hW0]; exact get_last (by simp)
  have hbw : Below w.heap.size w W0 := by rw [hW0]; exact by (repeat' (first | (with_reducible exact Below.refl _ _) | (with_reducible assumption) | (with_reducible refine below_drewN ?_ _) | (with_reducible refine Below.alloc ?_ ?_ _) | (with_reducible refine Below.drew ?_) | (with_reducible refine Below.setCell ?_ ?_ _) | go_size))
  have HW0 := Lib.hid hW0
  have HVx := Lib.hid (fun W (hb : Below w.heap.size w W) => dV.below hb)
  have HVy := Lib.hid (fun W (hb : Below w.heap.size w W) => dV'.below hb)
  obtain ⟨yo, yt, yn, ym, yl⟩ := y
  obtain ⟨xo, xt, xn, xm, xl⟩ := x
  replace d0 : w.cell? ⟨bx, ox, none⟩ = some (.int .i64 xo) := by simpa using d0
  replace d1 : w.cell? ⟨bx, ox + 1, none⟩ = some (.int .i64 xt) := by simpa using d1
  replace d2 : w.cell? ⟨bx, ox + 2, none⟩ = some (.int .i64 xn) := by simpa using d2
  replace d3 : w.cell? ⟨bx, ox + 3, none⟩ = some (.int .i64 xm) := by simpa using d3
  replace d4 : w.cell? ⟨bx, ox + 4, none⟩ = some (.slice ss sn sc2) := by simpa using d4
  replace d5 : w.cell? ⟨bx, ox + 5, none⟩ = some (.int .i64 yo) := by simpa using d5
  replace d6 : w.cell? ⟨bx, ox + 5 + 1, none⟩ = some (.int .i64 yt) := by simpa using d6
  replace d7 : w.cell? ⟨bx, ox + 5 + 2, none⟩ = some (.int .i64 yn) := by simpa using d7
  replace d8 : w.cell? ⟨bx, ox + 5 + 3, none⟩ = some (.int .i64 ym) := by simpa using d8
  replace d9 : w.cell? ⟨bx, ox + 5 + 4, none⟩ = some (.slice ss' sn' sc2') := by simpa using d9
  have D := Lib.hid (And.intro d0 (And.intro d1 (And.intro d2 (And.intro d3 (And.intro d4 (And.intro d5 (And.intro d6 (And.intro d7 (And.intro d8 d9)))))))))
  have HBX := Lib.hid hbx
  have HF := Lib.hid hF
  have HOE := Lib.hid oE
  have HOR := Lib.hid oR
  have HB0 := Lib.hid hbw
  have mixed : Tryd.prog.follows .mixedOrders = true := by kernel_rfl
  clear hW0 oE oR hbw dV dV' hr hrow q1 q2 hF d0 d1 d2 d3 d4 d5 d6 d7 d8 d9 hbx
  rw [hl2] at HNot HBoth
  clear hl2
  go_enter Tryd.func45, Tryd.ntmps45
  go_wp2_with fail
  refine (HNot.out _ (by (repeat' (first | (with_reducible exact Below.refl _ _) | (with_reducible assumption) | (with_reducible refine below_drewN ?_ _) | (with_reducible refine Below.alloc ?_ ?_ _) | (with_reducible refine Below.drew ?_) | (with_reducible refine Below.setCell ?_ ?_ _) | go_size)))).mono ?_; rintro r w1 ⟨rfl, hb1⟩
  rw [← HW0.out] at hb1
  have E1 := Lib.hid (obj_below HOE.out hb1 (heap_lt HOE.out))
  have R1 := Lib.hid (obj_below HOR.out hb1 (heap_lt HOR.out))
  have B1 := Lib.hid (HB0.out.trans (hb1.mono HB0.out.size))
  clear hb1
  obtain ⟨e0, e1, e2, e3, e4⟩ := boxed_ex5 E1.out
  have ye := heap_lt E1.out
  go_wp2_with fail
  refine (HBoth.out _ B1.out).mono ?_; rintro r w2 ⟨rfl, hb2⟩
  have E2 := Lib.hid (obj_below E1.out hb2 (heap_lt E1.out))
  have R2 := Lib.hid (obj_below R1.out hb2 (heap_lt R1.out))
  have B2 := Lib.hid (B1.out.trans (hb2.mono B1.out.size))
  clear e0 e1 e2 e3 e4 ye hb2
  obtain ⟨e0, e1, e2, e3, e4⟩ := boxed_ex5 E2.out
  have ye := heap_lt E2.out
  obtain ⟨d0, d1, d2, d3, d4, d5, d6, d7, d8, d9⟩ := D.out
  have hbx := HBX.out
  have c0 : w2.cell? ⟨bx, ox, none⟩ = some (.int .i64 xo) := (B2.out.cell (p := ⟨bx, ox, none⟩) hbx).trans d0
  have c1 : w2.cell? ⟨bx, ox + 1, none⟩ = some (.int .i64 xt) := (B2.out.cell (p := ⟨bx, ox + 1, none⟩) hbx).trans d1
  have c2 : w2.cell? ⟨bx, ox + 2, none⟩ = some (.int .i64 xn) := (B2.out.cell (p := ⟨bx, ox + 2, none⟩) hbx).trans d2
  have c3 : w2.cell? ⟨bx, ox + 3, none⟩ = some (.int .i64 xm) := (B2.out.cell (p := ⟨bx, ox + 3, none⟩) hbx).trans d3
  have c4 : w2.cell? ⟨bx, ox + 4, none⟩ = some (.slice ss sn sc2) := (B2.out.cell (p := ⟨bx, ox + 4, none⟩) hbx).trans d4
  have c5 : w2.cell? ⟨bx, ox + 5, none⟩ = some (.int .i64 yo) := (B2.out.cell (p := ⟨bx, ox + 5, none⟩) hbx).trans d5
  have c6 : w2.cell? ⟨bx, ox + 5 + 1, none⟩ = some (.int .i64 yt) := (B2.out.cell (p := ⟨bx, ox + 5 + 1, none⟩) hbx).trans d6
  have c7 : w2.cell? ⟨bx, ox + 5 + 2, none⟩ = some (.int .i64 yn) := (B2.out.cell (p := ⟨bx, ox + 5 + 2, none⟩) hbx).trans d7
  have c8 : w2.cell? ⟨bx, ox + 5 + 3, none⟩ = some (.int .i64 ym) := (B2.out.cell (p := ⟨bx, ox + 5 + 3, none⟩) hbx).trans d8
  have c9 : w2.cell? ⟨bx, ox + 5 + 4, none⟩ = some (.slice ss' sn' sc2') := (B2.out.cell (p := ⟨bx, ox + 5 + 4, none⟩) hbx).trans d9
  have yb : bx < w2.heap.size := Nat.lt_of_lt_of_le hbx B2.out.size
  clear d0 d1 d2 d3 d4 d5 d6 d7 d8 d9 hbx
  go_wp2_with fail
  have qq0 := fun wt (h : Below w2.heap.size w2 wt) => cellB h e0 ye
  have qq1 := fun wt (h : Below w2.heap.size w2 wt) => cellB h e1 ye
  have qq2 := fun wt (h : Below w2.heap.size w2 wt) => cellB h e2 ye
  have qq3 := fun wt (h : Below w2.heap.size w2 wt) => cellB h e3 ye
  have qq4 := fun wt (h : Below w2.heap.size w2 wt) => cellB h e4 ye
  have qq5 := fun wt (h : Below w2.heap.size w2 wt) => cellB h c0 yb
  have qq6 := fun wt (h : Below w2.heap.size w2 wt) => cellB h c1 yb
  have qq7 := fun wt (h : Below w2.heap.size w2 wt) => cellB h c2 yb
  have qq8 := fun wt (h : Below w2.heap.size w2 wt) => cellB h c3 yb
  have qq9 := fun wt (h : Below w2.heap.size w2 wt) => cellB h c4 yb
  have qq10 := fun wt (h : Below w2.heap.size w2 wt) => cellB h c5 yb
  have qq11 := fun wt (h : Below w2.heap.size w2 wt) => cellB h c6 yb
  have qq12 := fun wt (h : Below w2.heap.size w2 wt) => cellB h c7 yb
  have qq13 := fun wt (h : Below w2.heap.size w2 wt) => cellB h c8 yb
  have qq14 := fun wt (h : Below w2.heap.size w2 wt) => cellB h c9 yb
  refine wp_region_held_drew (S := (fun w' => Below w2.heap.size w2 w')) (by kernel_rfl) ?_ (fun hHeld => ?_)
  · (try dsimp only); first | assumption | exact Below.alloc hHeld hHeld.size _ | exact (Below.refl _ _).drew | exact Below.drew (Below.refl _ _) | exact Below_drewN _ _ _ | exact Below.refl _ _
  refine tk 0 (v := ?_) (hy := ?_) (h := ?_); rotate_left
  · intro _ _; go_simp <;> with_reducible rfl
  try simp only [pu, pa, pz, ps]
  refine tk 1 (v := ?_) (hy := ?_) (h := ?_); rotate_left
  · intro wt hSw; (try dsimp only at hSw); go_simp <;> with_reducible rfl
  try simp only [pu, pa, pz, ps]
  refine tk 2 (v := ?_) (hy := ?_) (h := ?_); rotate_left
  · intro _ _; go_simp <;> with_reducible rfl
  try simp only [pu, pa, pz, ps]
  refine tk 3 (v := ?_) (hy := ?_) (h := ?_); rotate_left
  · intro wt hSw; (try dsimp only at hSw); go_simp <;> with_reducible rfl
  try simp only [pu, pa, pz, ps]
  refine tk 4 (v := ?_) (hy := ?_) (h := ?_); rotate_left
  · intro _ _; go_simp <;> with_reducible rfl
  try simp only [pu, pa, pz, ps]
  refine tk 5 (v := ?_) (hy := ?_) (h := ?_); rotate_left
  · intro wt hSw; (try dsimp only at hSw); go_simp <;> with_reducible rfl
  try simp only [pu, pa, pz, ps]
  refine tk 6 (v := ?_) (hy := ?_) (h := ?_); rotate_left
  · intro _ _; go_simp <;> with_reducible rfl
  try simp only [pu, pa, pz, ps]
  refine tk 7 (v := ?_) (hy := ?_) (h := ?_); rotate_left
  · intro wt hSw; (try dsimp only at hSw); go_simp <;> with_reducible rfl
  try simp only [pu, pa, pz, ps]
  refine wpAnyH_ready (rs := [8, 9]) (by kernel_rfl) (by simp) ?_
  refine AllReadyH.cons (o := ⟨_, _, _, _, _, _⟩) rfl (fun K hK => ?_) (AllReadyH.cons (o := ⟨_, _, _, _, _, _⟩) rfl (fun K hK => ?_) (AllReadyH.nil))
  go_simp
  refine hK.out _ _ ?_ (fun hHeld => ?_)
  · (try dsimp only); first | assumption | exact Below.alloc hHeld hHeld.size _ | exact (Below.refl _ _).drew | exact Below.drew (Below.refl _ _) | exact Below_drewN _ _ _ | exact Below.refl _ _
  clear hK K
  try simp only [pu, pa, pz, ps]
  refine wpAnyH_ready (rs := [9]) (by kernel_rfl) (by simp) ?_
  refine AllReadyH.cons (o := ⟨_, _, _, _, _, _⟩) rfl (fun K hK => ?_) AllReadyH.nil
  go_simp
  refine hK.out _ _ ?_ (fun hHeld => ?_)
  · (try dsimp only); first | assumption | exact Below.alloc hHeld hHeld.size _ | exact (Below.refl _ _).drew | exact Below.drew (Below.refl _ _) | exact Below_drewN _ _ _ | exact Below.refl _ _
  clear hK K
  try simp only [pu, pa, pz, ps]
  refine wpAnyH_ready (rs := [10]) (by kernel_rfl) (by simp) ?_
  refine AllReadyH.cons (o := ⟨_, _, _, _, _, _⟩) rfl (fun K hK => ?_) AllReadyH.nil
  go_simp
  refine hK.out _ _ ?_ (fun hHeld => ?_)
  · (try dsimp only); exact by (repeat' (first | (with_reducible exact Below.refl _ _) | (with_reducible assumption) | (with_reducible refine below_drewN ?_ _) | (with_reducible refine Below.alloc ?_ ?_ _) | (with_reducible refine Below.drew ?_) | (with_reducible refine Below.setCell ?_ ?_ _) | go_size))
  clear hK K
  try simp only [pu, pa, pz, ps]
  refine wpAnyH_ready (rs := [11]) (by kernel_rfl) (by simp) ?_
  refine AllReadyH.cons (o := ⟨_, _, _, _, _, _⟩) rfl (fun K hK => ?_) AllReadyH.nil
  go_simp
  refine hK.out _ _ ?_ (fun hHeld => ?_)
  · (try dsimp only); exact by (repeat' (first | (with_reducible exact Below.refl _ _) | (with_reducible assumption) | (with_reducible refine below_drewN ?_ _) | (with_reducible refine Below.alloc ?_ ?_ _) | (with_reducible refine Below.drew ?_) | (with_reducible refine Below.setCell ?_ ?_ _) | go_size))
  clear hK K
  try simp only [pu, pa, pz, ps]
  refine wpAnyH_done (by kernel_rfl) ?_ _
  have OA := Lib.hid (show (((w2.alloc (.cells #[.int .i64 xo, .int .i64 xt, .int .i64 xn, .int .i64 xm, .slice ss sn sc2] 37)).alloc (.cells #[.int .i64 yo, .int .i64 yt, .int .i64 yn, .int .i64 ym, .slice ss' sn' sc2'] 37)).drew).heap[w2.heap.size]? = some (.cells #[.int .i64 xo, .int .i64 xt, .int .i64 xn, .int .i64 xm, .slice ss sn sc2] 37) from (get_past (by simp)).trans (get_last rfl))
  have OB := Lib.hid (show (((w2.alloc (.cells #[.int .i64 xo, .int .i64 xt, .int .i64 xn, .int .i64 xm, .slice ss sn sc2] 37)).alloc (.cells #[.int .i64 yo, .int .i64 yt, .int .i64 yn, .int .i64 ym, .slice ss' sn' sc2'] 37)).drew).heap[w2.heap.size + 1]? = some (.cells #[.int .i64 yo, .int .i64 yt, .int .i64 yn, .int .i64 ym, .slice ss' sn' sc2'] 37) from get_last (by simp))
  have hb5 : Below w2.heap.size w2 (((w2.alloc (.cells #[.int .i64 xo, .int .i64 xt, .int .i64 xn, .int .i64 xm, .slice ss sn sc2] 37)).alloc (.cells #[.int .i64 yo, .int .i64 yt, .int .i64 yn, .int .i64 ym, .slice ss' sn' sc2'] 37)).drew) := by (repeat' (first | (with_reducible exact Below.refl _ _) | (with_reducible assumption) | (with_reducible refine below_drewN ?_ _) | (with_reducible refine Below.alloc ?_ ?_ _) | (with_reducible refine Below.drew ?_) | (with_reducible refine Below.setCell ?_ ?_ _) | go_size))
  generalize hW5 : ((w2.alloc (.cells #[.int .i64 xo, .int .i64 xt, .int .i64 xn, .int .i64 xm, .slice ss sn sc2] 37)).alloc (.cells #[.int .i64 yo, .int .i64 yt, .int .i64 yn, .int .i64 ym, .slice ss' sn' sc2'] 37)).drew = w5 at *
  clear hHeld hW5 e0 e1 e2 e3 e4 ye yb c0 c1 c2 c3 c4 c5 c6 c7 c8 c9
  have E5 := Lib.hid (obj_below E2.out hb5 (heap_lt E2.out))
  have R5 := Lib.hid (obj_below R2.out hb5 (heap_lt R2.out))
  have B5 := Lib.hid (B2.out.trans (hb5.mono B2.out.size))
  have n2 : w.heap.size + 1 ≠ w2.heap.size := by have := heap_lt R2.out; omega
  have n3 : w.heap.size + 1 ≠ w2.heap.size + 1 := by have := heap_lt R2.out; omega
  have HN := Lib.hid (And.intro n2 n3)
  clear n2 n3 hb5 E2 R2 B2 HOE HOR HB0 HW0 E1 R1 B1
  generalize w2.heap.size + 1 = qb at *
  generalize w2.heap.size = qa at *
  rotate_left
  go_simp
  refine hK.out _ _ ?_ (fun hHeld => ?_)
  · (try dsimp only); first | assumption | exact Below.alloc hHeld hHeld.size _ | exact (Below.refl _ _).drew | exact Below.drew (Below.refl _ _) | exact Below_drewN _ _ _ | exact Below.refl _ _
  clear hK K
  try simp only [pu, pa, pz, ps]
  refine wpAnyH_ready (rs := [8]) (by kernel_rfl) (by simp) ?_
  refine AllReadyH.cons (o := ⟨_, _, _, _, _, _⟩) rfl (fun K hK => ?_) AllReadyH.nil
  go_simp
  refine hK.out _ _ ?_ (fun hHeld => ?_)
  · (try dsimp only); first | assumption | exact Below.alloc hHeld hHeld.size _ | exact (Below.refl _ _).drew | exact Below.drew (Below.refl _ _) | exact Below_drewN _ _ _ | exact Below.refl _ _
  clear hK K
  try simp only [pu, pa, pz, ps]
  refine wpAnyH_ready (rs := [10]) (by kernel_rfl) (by simp) ?_
  refine AllReadyH.cons (o := ⟨_, _, _, _, _, _⟩) rfl (fun K hK => ?_) AllReadyH.nil
  go_simp
  refine hK.out _ _ ?_ (fun hHeld => ?_)
  · (try dsimp only); exact by (repeat' (first | (with_reducible exact Below.refl _ _) | (with_reducible assumption) | (with_reducible refine below_drewN ?_ _) | (with_reducible refine Below.alloc ?_ ?_ _) | (with_reducible refine Below.drew ?_) | (with_reducible refine Below.setCell ?_ ?_ _) | go_size))
  clear hK K
  try simp only [pu, pa, pz, ps]
  refine wpAnyH_ready (rs := [11]) (by kernel_rfl) (by simp) ?_
  refine AllReadyH.cons (o := ⟨_, _, _, _, _, _⟩) rfl (fun K hK => ?_) AllReadyH.nil
  go_simp
  refine hK.out _ _ ?_ (fun hHeld => ?_)
  · (try dsimp only); exact by (repeat' (first | (with_reducible exact Below.refl _ _) | (with_reducible assumption) | (with_reducible refine below_drewN ?_ _) | (with_reducible refine Below.alloc ?_ ?_ _) | (with_reducible refine Below.drew ?_) | (with_reducible refine Below.setCell ?_ ?_ _) | go_size))
  clear hK K
  try simp only [pu, pa, pz, ps]
  refine wpAnyH_done (by kernel_rfl) ?_ _
  have OB := Lib.hid (show (((w2.alloc (.cells #[.int .i64 yo, .int .i64 yt, .int .i64 yn, .int .i64 ym, .slice ss' sn' sc2'] 37)).alloc (.cells #[.int .i64 xo, .int .i64 xt, .int .i64 xn, .int .i64 xm, .slice ss sn sc2] 37)).drew).heap[w2.heap.size]? = some (.cells #[.int .i64 yo, .int .i64 yt, .int .i64 yn, .int .i64 ym, .slice ss' sn' sc2'] 37) from (get_past (by simp)).trans (get_last rfl))
  have OA := Lib.hid (show (((w2.alloc (.cells #[.int .i64 yo, .int .i64 yt, .int .i64 yn, .int .i64 ym, .slice ss' sn' sc2'] 37)).alloc (.cells #[.int .i64 xo, .int .i64 xt, .int .i64 xn, .int .i64 xm, .slice ss sn sc2] 37)).drew).heap[w2.heap.size + 1]? = some (.cells #[.int .i64 xo, .int .i64 xt, .int .i64 xn, .int .i64 xm, .slice ss sn sc2] 37) from get_last (by simp))
  have hb5 : Below w2.heap.size w2 (((w2.alloc (.cells #[.int .i64 yo, .int .i64 yt, .int .i64 yn, .int .i64 ym, .slice ss' sn' sc2'] 37)).alloc (.cells #[.int .i64 xo, .int .i64 xt, .int .i64 xn, .int .i64 xm, .slice ss sn sc2] 37)).drew) := by (repeat' (first | (with_reducible exact Below.refl _ _) | (with_reducible assumption) | (with_reducible refine below_drewN ?_ _) | (with_reducible refine Below.alloc ?_ ?_ _) | (with_reducible refine Below.drew ?_) | (with_reducible refine Below.setCell ?_ ?_ _) | go_size))
  generalize hW5 : ((w2.alloc (.cells #[.int .i64 yo, .int .i64 yt, .int .i64 yn, .int .i64 ym, .slice ss' sn' sc2'] 37)).alloc (.cells #[.int .i64 xo, .int .i64 xt, .int .i64 xn, .int .i64 xm, .slice ss sn sc2] 37)).drew = w5 at *
  clear hHeld hW5 e0 e1 e2 e3 e4 ye yb c0 c1 c2 c3 c4 c5 c6 c7 c8 c9
  have E5 := Lib.hid (obj_below E2.out hb5 (heap_lt E2.out))
  have R5 := Lib.hid (obj_below R2.out hb5 (heap_lt R2.out))
  have B5 := Lib.hid (B2.out.trans (hb5.mono B2.out.size))
  have n2 : w.heap.size + 1 ≠ w2.heap.size + 1 := by have := heap_lt R2.out; omega
  have n3 : w.heap.size + 1 ≠ w2.heap.size := by have := heap_lt R2.out; omega
  have HN := Lib.hid (And.intro n2 n3)
  clear n2 n3 hb5 E2 R2 B2 HOE HOR HB0 HW0 E1 R1 B1
  generalize w2.heap.size + 1 = qa at *
  generalize w2.heap.size = qb at *
  all_goals
    have e3 := obj_cell E5.out (i := 3) rfl
    have ye := heap_lt E5.out
    go_wp2_with fail
    refine (HJ.out _).mono ?_; rintro r v0 ⟨rfl, hv0⟩; rw [hv0]; clear hv0
    go_wp2_with fail
    clear e3 ye
    have R0 := Lib.hid (show w5.drew.heap[w.heap.size + 1]? = _ from R5.out)
    have B0 := Lib.hid (show Below w.heap.size w w5.drew from B5.out.drew)
    have hT0 : Kept w.heap.size qa qb _ _ _ w w5.drew := ⟨⟨E5.out, OA.out, OB.out⟩, B0.out⟩
    clear E5 OA OB R5 B5
    refine wp_region_held_drew (S := (fun w' => Kept w.heap.size qa qb (.cells #[.int .i64 7, .int .i64 0, .int .i64 0, .int .i64 m, .slice (some ⟨bx, ox, none⟩) 2 sc] 37) (.cells #[.int .i64 xo, .int .i64 xt, .int .i64 xn, .int .i64 xm, .slice ss sn sc2] 37) (.cells #[.int .i64 yo, .int .i64 yt, .int .i64 yn, .int .i64 ym, .slice ss' sn' sc2'] 37) w w')) (by kernel_rfl) ?_ (fun hHeld => ?_)
    · (try dsimp only); exact hT0
    refine tk 0 (v := ?_) (hy := ?_) (h := ?_); rotate_left
    · intro wt hSw; (try dsimp only at hSw); have e3 := obj_cell hSw.o.e (i := 3) rfl; obtain ⟨a0, a1, a2, a3, a4⟩ := boxed_ex5 hSw.o.a; obtain ⟨b0, b1, b2, b3, b4⟩ := boxed_ex5 hSw.o.b; have za := heap_lt hSw.o.a; have zb := heap_lt hSw.o.b; have cF := obj_cell (obj_below HF.out hSw.b (heap_lt HF.out)) (i := 0) rfl; have yF := Nat.lt_of_lt_of_le (heap_lt HF.out) hSw.b.size; go_simp <;> with_reducible rfl
    try simp only [pu, pa, pz, ps]
    refine tk 1 (v := ?_) (hy := ?_) (h := ?_); rotate_left
    · intro wt hSw; (try dsimp only at hSw); have e3 := obj_cell hSw.o.e (i := 3) rfl; obtain ⟨a0, a1, a2, a3, a4⟩ := boxed_ex5 hSw.o.a; obtain ⟨b0, b1, b2, b3, b4⟩ := boxed_ex5 hSw.o.b; have za := heap_lt hSw.o.a; have zb := heap_lt hSw.o.b; have cF := obj_cell (obj_below HF.out hSw.b (heap_lt HF.out)) (i := 0) rfl; have yF := Nat.lt_of_lt_of_le (heap_lt HF.out) hSw.b.size; go_simp <;> with_reducible rfl
    try simp only [pu, pa, pz, ps]
    refine tk 3 (v := ?_) (hy := ?_) (h := ?_); rotate_left
    · intro wt hSw; (try dsimp only at hSw); have e3 := obj_cell hSw.o.e (i := 3) rfl; obtain ⟨a0, a1, a2, a3, a4⟩ := boxed_ex5 hSw.o.a; obtain ⟨b0, b1, b2, b3, b4⟩ := boxed_ex5 hSw.o.b; have za := heap_lt hSw.o.a; have zb := heap_lt hSw.o.b; have cF := obj_cell (obj_below HF.out hSw.b (heap_lt HF.out)) (i := 0) rfl; have yF := Nat.lt_of_lt_of_le (heap_lt HF.out) hSw.b.size; go_simp <;> with_reducible rfl
    try simp only [pu, pa, pz, ps]
    refine tk 4 (v := ?_) (hy := ?_) (h := ?_); rotate_left
    · intro wt hSw; (try dsimp only at hSw); have e3 := obj_cell hSw.o.e (i := 3) rfl; obtain ⟨a0, a1, a2, a3, a4⟩ := boxed_ex5 hSw.o.a; obtain ⟨b0, b1, b2, b3, b4⟩ := boxed_ex5 hSw.o.b; have za := heap_lt hSw.o.a; have zb := heap_lt hSw.o.b; have cF := obj_cell (obj_below HF.out hSw.b (heap_lt HF.out)) (i := 0) rfl; have yF := Nat.lt_of_lt_of_le (heap_lt HF.out) hSw.b.size; go_simp <;> with_reducible rfl
    try simp only [pu, pa, pz, ps]
    refine tk 5 (v := ?_) (hy := ?_) (h := ?_); rotate_left
    · intro _ _; go_simp <;> with_reducible rfl
    try simp only [pu, pa, pz, ps]
    refine tk 8 (v := ?_) (hy := ?_) (h := ?_); rotate_left
    · intro wt hSw; (try dsimp only at hSw); have e3 := obj_cell hSw.o.e (i := 3) rfl; obtain ⟨a0, a1, a2, a3, a4⟩ := boxed_ex5 hSw.o.a; obtain ⟨b0, b1, b2, b3, b4⟩ := boxed_ex5 hSw.o.b; have za := heap_lt hSw.o.a; have zb := heap_lt hSw.o.b; have cF := obj_cell (obj_below HF.out hSw.b (heap_lt HF.out)) (i := 0) rfl; have yF := Nat.lt_of_lt_of_le (heap_lt HF.out) hSw.b.size; go_simp <;> with_reducible rfl
    try simp only [pu, pa, pz, ps]
    refine tk 9 (v := ?_) (hy := ?_) (h := ?_); rotate_left
    · intro wt hSw; (try dsimp only at hSw); have e3 := obj_cell hSw.o.e (i := 3) rfl; obtain ⟨a0, a1, a2, a3, a4⟩ := boxed_ex5 hSw.o.a; obtain ⟨b0, b1, b2, b3, b4⟩ := boxed_ex5 hSw.o.b; have za := heap_lt hSw.o.a; have zb := heap_lt hSw.o.b; have cF := obj_cell (obj_below HF.out hSw.b (heap_lt HF.out)) (i := 0) rfl; have yF := Nat.lt_of_lt_of_le (heap_lt HF.out) hSw.b.size; go_simp <;> with_reducible rfl
    try simp only [pu, pa, pz, ps]
    refine tk 11 (v := ?_) (hy := ?_) (h := ?_); rotate_left
    · intro wt hSw; (try dsimp only at hSw); have e3 := obj_cell hSw.o.e (i := 3) rfl; obtain ⟨a0, a1, a2, a3, a4⟩ := boxed_ex5 hSw.o.a; obtain ⟨b0, b1, b2, b3, b4⟩ := boxed_ex5 hSw.o.b; have za := heap_lt hSw.o.a; have zb := heap_lt hSw.o.b; have cF := obj_cell (obj_below HF.out hSw.b (heap_lt HF.out)) (i := 0) rfl; have yF := Nat.lt_of_lt_of_le (heap_lt HF.out) hSw.b.size; go_simp <;> with_reducible rfl
    try simp only [pu, pa, pz, ps]
    refine tk 12 (v := ?_) (hy := ?_) (h := ?_); rotate_left
    · intro wt hSw; (try dsimp only at hSw); have e3 := obj_cell hSw.o.e (i := 3) rfl; obtain ⟨a0, a1, a2, a3, a4⟩ := boxed_ex5 hSw.o.a; obtain ⟨b0, b1, b2, b3, b4⟩ := boxed_ex5 hSw.o.b; have za := heap_lt hSw.o.a; have zb := heap_lt hSw.o.b; have cF := obj_cell (obj_below HF.out hSw.b (heap_lt HF.out)) (i := 0) rfl; have yF := Nat.lt_of_lt_of_le (heap_lt HF.out) hSw.b.size; go_simp <;> with_reducible rfl
    try simp only [pu, pa, pz, ps]
    refine tk 13 (v := ?_) (hy := ?_) (h := ?_); rotate_left
    · intro _ _; go_simp <;> with_reducible rfl
    try simp only [pu, pa, pz, ps]
    refine tk 14 (v := ?_) (hy := ?_) (h := ?_); rotate_left
    · intro _ _; go_simp <;> with_reducible rfl
    try simp only [pu, pa, pz, ps]
    refine wpAnyH_ready (rs := [2]) (by kernel_rfl) (by simp) ?_
    refine AllReadyH.cons (o := ⟨_, _, _, _, _, _⟩) rfl (fun K hK => ?_) AllReadyH.nil
    go_simp
    refine (HAa.out _ _ (HVx.out _ B0.out) (obj_below HF.out B0.out (heap_lt HF.out))).mono ?_; rintro r v1 ⟨z0, rfl, hz0, hb⟩; have hb1 := Lib.hid hb; clear hb
    go_wp2_with fail
    refine hK.out _ _ ?_ (fun hHeld => ?_)
    · (try dsimp only); exact hHeld.below hb1.out
    clear hK K
    have R1 := Lib.hid (obj_below R0.out hb1.out (heap_lt R0.out))
    have B1 := Lib.hid (B0.out.trans (hb1.out.mono B0.out.size))
    have Z0 := Lib.hid hz0
    clear hz0
    try simp only [pu, pa, pz, ps]
    refine wpAnyH_ready (rs := [6]) (by kernel_rfl) (by simp) ?_
    refine AllReadyH.cons (o := ⟨_, _, _, _, _, _⟩) rfl (fun K hK => ?_) AllReadyH.nil
    go_simp
    refine (HBb.out _ _ (HVy.out _ B1.out) (obj_below HF.out B1.out (heap_lt HF.out))).mono ?_; rintro r v2 ⟨z1, rfl, hz1, hb⟩; have hb2 := Lib.hid hb; clear hb
    go_wp2_with fail
    refine hK.out _ _ ?_ (fun hHeld => ?_)
    · (try dsimp only); exact hHeld.below hb2.out
    clear hK K
    have R2 := Lib.hid (obj_below R1.out hb2.out (heap_lt R1.out))
    have B2 := Lib.hid (B1.out.trans (hb2.out.mono B1.out.size))
    have Z1 := Lib.hid hz1
    have Z0 := Lib.hid (Z0.out.below hb2.out)
    clear hz1
    try simp only [pu, pa, pz, ps]
    refine wpAnyH_ready (rs := [7]) (by kernel_rfl) (by simp) ?_
    refine AllReadyH.cons (o := ⟨_, _, _, _, _, _⟩) rfl (fun K hK => ?_) AllReadyH.nil
    go_simp
    refine (nnf_bin 14 _ _ _ _ _ (by unfold I64; omega) Z0.out Z1.out).mono ?_; rintro r v3 ⟨z2, rfl, hz2, hb⟩; have hb3 := Lib.hid hb; clear hb
    go_wp2_with fail
    refine hK.out _ _ ?_ (fun hHeld => ?_)
    · (try dsimp only); exact hHeld.below hb3.out
    clear hK K
    have R3 := Lib.hid (obj_below R2.out hb3.out (heap_lt R2.out))
    have B3 := Lib.hid (B2.out.trans (hb3.out.mono B2.out.size))
    have Z2 := Lib.hid hz2
    clear hz2
    try simp only [pu, pa, pz, ps]
    refine wpAnyH_ready (rs := [10]) (by kernel_rfl) (by simp) ?_
    refine AllReadyH.cons (o := ⟨_, _, _, _, _, _⟩) rfl (fun K hK => ?_) AllReadyH.nil
    go_simp
    refine (HCc.out _ _ (HVx.out _ B3.out) (obj_below HF.out B3.out (heap_lt HF.out))).mono ?_; rintro r v4 ⟨z3, rfl, hz3, hb⟩; have hb4 := Lib.hid hb; clear hb
    go_wp2_with fail
    refine hK.out _ _ ?_ (fun hHeld => ?_)
    · (try dsimp only); exact hHeld.below hb4.out
    clear hK K
    have R4 := Lib.hid (obj_below R3.out hb4.out (heap_lt R3.out))
    have B4 := Lib.hid (B3.out.trans (hb4.out.mono B3.out.size))
    have Z3 := Lib.hid hz3
    have Z2 := Lib.hid (Z2.out.below hb4.out)
    clear hz3
    try simp only [pu, pa, pz, ps]
    refine wpAnyH_ready (rs := [15]) (by kernel_rfl) (by simp) ?_
    refine AllReadyH.cons (o := ⟨_, _, _, _, _, _⟩) rfl (fun K hK => ?_) AllReadyH.nil
    go_simp
    refine (HDd.out _ _ (HVy.out _ B4.out) (obj_below HF.out B4.out (heap_lt HF.out))).mono ?_; rintro r v5 ⟨z4, rfl, hz4, hb⟩; have hb5 := Lib.hid hb; clear hb
    go_wp2_with fail
    refine hK.out _ _ ?_ (fun hHeld => ?_)
    · (try dsimp only); exact hHeld.below hb5.out
    clear hK K
    have R5 := Lib.hid (obj_below R4.out hb5.out (heap_lt R4.out))
    have B5 := Lib.hid (B4.out.trans (hb5.out.mono B4.out.size))
    have Z4 := Lib.hid hz4
    have Z2 := Lib.hid (Z2.out.below hb5.out)
    have Z3 := Lib.hid (Z3.out.below hb5.out)
    clear hz4
    try simp only [pu, pa, pz, ps]
    refine wpAnyH_ready (rs := [16]) (by kernel_rfl) (by simp) ?_
    refine AllReadyH.cons (o := ⟨_, _, _, _, _, _⟩) rfl (fun K hK => ?_) AllReadyH.nil
    go_simp
    refine (nnf_bin 14 _ _ _ _ _ (by unfold I64; omega) Z3.out Z4.out).mono ?_; rintro r v6 ⟨z5, rfl, hz5, hb⟩; have hb6 := Lib.hid hb; clear hb
    go_wp2_with fail
    refine hK.out _ _ ?_ (fun hHeld => ?_)
    · (try dsimp only); exact hHeld.below hb6.out
    clear hK K
    have R6 := Lib.hid (obj_below R5.out hb6.out (heap_lt R5.out))
    have B6 := Lib.hid (B5.out.trans (hb6.out.mono B5.out.size))
    have Z5 := Lib.hid hz5
    have Z2 := Lib.hid (Z2.out.below hb6.out)
    clear hz5
    try simp only [pu, pa, pz, ps]
    refine wpAnyH_ready (rs := [17]) (by kernel_rfl) (by simp) ?_
    refine AllReadyH.cons (o := ⟨_, _, _, _, _, _⟩) rfl (fun K hK => ?_) AllReadyH.nil
    go_simp
    refine (nnf_bin 15 _ _ _ _ _ (by unfold I64; omega) Z2.out Z5.out).mono ?_; rintro r v7 ⟨z6, rfl, hz6, hb⟩; have hb7 := Lib.hid hb; clear hb
    go_wp2_with fail
    refine hK.out _ _ ?_ (fun hHeld => ?_)
    · (try dsimp only); exact hHeld.below hb7.out
    clear hK K
    have R7 := Lib.hid (obj_below R6.out hb7.out (heap_lt R6.out))
    have B7 := Lib.hid (B6.out.trans (hb7.out.mono B6.out.size))
    have Z6 := Lib.hid hz6
    clear hz6
    obtain ⟨a, k, c, hzf⟩ := ex_form Z6.out
    rw [hzf] at Z6
    rw [hzf]
    clear hzf
    obtain ⟨f0, f1, f2, f3, f4⟩ := frozen5 R7.out
    obtain ⟨g0, g1, g2, g3, g4⟩ := boxed_ex5 R7.out
    have yr := heap_lt R7.out
    try simp only [pu, pa, pz, ps]
    refine wpAnyH_ready (rs := [18]) (by kernel_rfl) (by simp) ?_
    refine AllReadyH.cons (o := ⟨_, _, _, _, _, _⟩) rfl (fun K hK => ?_) AllReadyH.nil
    go_simp
    refine hK.out _ _ ?_ (fun hHeld => ?_)
    · (try dsimp only); exact hHeld.sets (by omega) HN.out.1 HN.out.2 (by omega) _ _ _ _ _
    clear hK K
    try simp only [pu, pa, pz, ps]
    refine wpAnyH_done (by kernel_rfl) ?_ _
    clear hHeld
    go_wp2_with fail
    obtain ⟨y, hy⟩ : ∃ y, binE 15 (binE 14 Aa Bb) (binE 14 Cc Dd) = y := ⟨_, rfl⟩
    rw [hy] at Z6 HZ ⊢
    obtain ⟨w5, hW5, oo, HE, HB3⟩ := store_ex R7.out Z6.out HZ.out B7.out (by omega)
    rw [← hW5]
    obtain ⟨e0, e1, e2, e3, e4⟩ := boxed_ex5 oo
    refine bodyPost_ret (by simp [results, Tryd.results45, go_sem, e0, e1, e2, e3, e4]; try rfl) rfl ?_
    exact ⟨_, rfl, HE, HB3⟩
theorem form_noZ {s : Sc} {e : Ex} (h : truE s e = true) (t : Bool) : noZ (formE e t) = true := by
  obtain ⟨h1, h2⟩ := form_same s e h
  obtain ⟨⟨z1, _⟩, z2, _⟩ := as_noZ e h
  cases t
  · rw [h1]; exact z1
  · rw [h2]; exact z2
theorem norm_form (s : Sc) (e : Ex) : truE s e = true → ∀ (t : Bool) (g : Nat) (ty : TypeId) w v, ExV w v e → FnAt g ty w → Calls Tryd.prog 45 #[v, .bool t, .pointer (some ⟨g, 0, none⟩)] w fun r w' => ∃ z, r = .returned z ∧ ExV w' z (formE e t) ∧ Below w.heap.size w w' := by
  induction e using Ex.ind with
  | h op t n m l ih =>
    intro ht tr g ty w v hv hF
    have hz := form_noZ ht tr
    rcases tru_cases ht with ⟨h1, h0⟩ | ⟨x, hx, hxt⟩ | ⟨m', x, y, hx, hxt, hyt, hj⟩
    · rw [form_leaf _ _ (leaf_not h1).1 (leaf_not h1).2] at hz ⊢
      exact norm_leaf _ tr g (leaf_not h1).1 (leaf_not h1).2 (leaf_num h1) hz w v hv
    · have e1 := ih x (by injection hx with _ _ _ _ hl; rw [hl]; simp) hxt
      rw [hx] at hv hz ⊢
      rw [form_un] at hz ⊢
      exact norm_un x _ tr g ty hz (fun w v h hF => e1 (!tr) g ty w v h hF) w v hv hF
    · have e1 := ih x (by injection hx with _ _ _ _ hl; rw [hl]; simp) hxt
      have e2 := ih y (by injection hx with _ _ _ _ hl; rw [hl]; simp) hyt
      have e1 := fun t w v h hF => e1 t g ty w v h hF
      have e2 := fun t w v h hF => e2 t g ty w v h hF
      rw [hx] at hv hz ⊢
      rw [form_bin] at hz ⊢
      cases hjm : jun m' with
      | true =>
        rw [hjm, if_pos rfl] at hz
        rw [if_pos rfl]
        cases tr with
        | false => exact norm_jf x y _ _ m' hjm g ty hz (e1 false) (e2 false) w v hv hF
        | true => exact norm_jt x y _ _ m' hjm g ty hz (e1 true) (e2 true) w v hv hF
      | false =>
        rw [hjm, if_neg (by simp)] at hz
        rw [if_neg (by simp)]
        cases hq : (m' == 20) with
        | true =>
          rw [hq] at hz
          cases tr with
          | false => exact norm_pf20 x y _ _ _ _ m' hjm hq g ty hz (e1 false) (e2 false) (e1 true) (e2 true) w v hv hF
          | true => exact norm_pt20 x y _ _ _ _ m' hjm hq g ty hz (e1 false) (e2 true) (e1 true) (e2 false) w v hv hF
        | false =>
          rw [hq] at hz
          cases tr with
          | false => exact norm_pf x y _ _ _ _ m' hjm hq g ty hz (e1 false) (e2 true) (e1 true) (e2 false) w v hv hF
          | true => exact norm_pt x y _ _ _ _ m' hjm hq g ty hz (e1 false) (e2 false) (e1 true) (e2 true) w v hv hF
end Go.Proofs.YtknbomikiakpmaaDoor
/- Layer 43: nnf.Norm. -/
namespace Go.Proofs.YtknbomikiakpmaaDoor
open Go.RowKit
open NN
set_option linter.unusedSimpArgs false
set_option linter.unusedVariables false
set_option maxRecDepth 100000 in
set_option maxHeartbeats 4000000 in
theorem nnf_Norm_no (a b c d : Value) (s : Sc) (e : Ex) (w : World) (v : Value) (he : SmallE 300 e) (hs : ScAt w a b d s) (hv : ExV w v e) (hg : AGoes w) (hT : BTab w) (hc : 24 < cntE s e) :
    Calls Tryd.prog 16 #[.agg #[a, b, c, d], v] w fun r w' => ∃ z, r = .returned (.tuple #[z, .bool false]) ∧ ExV w' z ex0 ∧ Below w.heap.size w w' := by
  have HC := Lib.hid (fun W (hb : Below w.heap.size w W) => nnf_Count a b c d s e W v he (hs.below hb) (hv.below hb) (hg.below hb) (hT.below hb))
  obtain ⟨sl, rfl, hr, hrow⟩ := hv
  obtain ⟨sa, sc, rfl⟩ := row_get hrow
  obtain ⟨N, hN⟩ : ∃ N, e.l.length = N := ⟨_, rfl⟩
  rw [hN] at HC ⊢
  generalize e.op = p1 at *
  generalize e.t = p2 at *
  generalize e.n = p3 at *
  generalize e.m = p4 at *
  generalize cntE s e = Z at *
  have q1 : (24 < Z) = True := eq_true hc
  obtain ⟨W0, hW0⟩ : ∃ W0, W0 = ((w.alloc (.cells #[a, b, c, d] 43)).alloc (.cells #[.int .i64 p1, .int .i64 p2, .int .i64 p3, .int .i64 p4, .slice sa N sc] 37)).alloc (.cells #[.int .i64 0, .int .i64 0, .int .i64 0, .int .i64 0, .slice none 0 0] 37) := ⟨_, rfl⟩
  have oR : W0.heap[w.heap.size + 1 + 1]? = some (.cells #[.int .i64 0, .int .i64 0, .int .i64 0, .int .i64 0, .slice none 0 0] 37) := by rw [hW0]; exact get_last (by simp)
  have hbw : Below w.heap.size w W0 := by rw [hW0]; exact by (repeat' (first | (with_reducible exact Below.refl _ _) | (with_reducible assumption) | (with_reducible refine below_drewN ?_ _) | (with_reducible refine Below.alloc ?_ ?_ _) | (with_reducible refine Below.drew ?_) | (with_reducible refine Below.setCell ?_ ?_ _) | go_size))
  have HW0 := Lib.hid hW0
  have HB0 := Lib.hid hbw
  clear hW0 hr hrow he hs hg hT hc hN hbw
  go_enter Tryd.func16, Tryd.ntmps16
  go_wp2_with fail
  refine (HC.out _ (by (repeat' (first | (with_reducible exact Below.refl _ _) | (with_reducible assumption) | (with_reducible refine below_drewN ?_ _) | (with_reducible refine Below.alloc ?_ ?_ _) | (with_reducible refine Below.drew ?_) | (with_reducible refine Below.setCell ?_ ?_ _) | go_size)))).mono ?_; rintro r w1 ⟨rfl, hb⟩
  rw [← HW0.out] at hb
  have R1 := Lib.hid (obj_below oR hb (heap_lt oR))
  have B1 := Lib.hid (HB0.out.trans (hb.mono HB0.out.size))
  clear hb oR HW0 HB0 HC
  have f0 := obj_frozen R1.out 0
  have f1 := obj_frozen R1.out 1
  have f2 := obj_frozen R1.out 2
  have f3 := obj_frozen R1.out 3
  have f4 := obj_frozen R1.out 4
  obtain ⟨g0, g1, g2, g3, g4⟩ := boxed_ex5 R1.out
  have yr := heap_lt R1.out
  go_wp2_with fail
  have so := set5 (.int .i64 0) (.int .i64 0) (.int .i64 0) (.int .i64 0) (.slice none 0 0) R1.out
  have HB3 := below_sets (B := w.heap.size) (g := w.heap.size + 1 + 1) B1.out (by omega) (.int .i64 0) (.int .i64 0) (.int .i64 0) (.int .i64 0) (.slice none 0 0)
  generalize hW5 : (((((w1.setCell ⟨w.heap.size + 1 + 1, 0, none⟩ (.int .i64 0)).setCell ⟨w.heap.size + 1 + 1, 1, none⟩ (.int .i64 0)).setCell ⟨w.heap.size + 1 + 1, 2, none⟩ (.int .i64 0)).setCell ⟨w.heap.size + 1 + 1, 3, none⟩ (.int .i64 0)).setCell ⟨w.heap.size + 1 + 1, 4, none⟩ (.slice none 0 0)) = w5 at *
  obtain ⟨e0, e1, e2, e3, e4⟩ := boxed_ex5 so.1
  refine bodyPost_ret (by simp [results, Tryd.results16, go_sem, e0, e1, e2, e3, e4]; try rfl) rfl ?_
  exact ⟨_, rfl, exV_lit ⟨by unfold I64; omega, by unfold I64; omega, by unfold I64; omega, by unfold I64; omega⟩ row_none, HB3⟩
set_option maxRecDepth 100000 in
set_option maxHeartbeats 4000000 in
theorem nnf_Norm_yes (a b c d : Value) (s : Sc) (e : Ex) (w : World) (v : Value) (he : SmallE 300 e) (hs : ScAt w a b d s) (hv : ExV w v e) (hg : AGoes w) (hT : BTab w) (hc : ¬ 24 < cntE s e) :
    Calls Tryd.prog 16 #[.agg #[a, b, c, d], v] w fun r w' => ∃ z, r = .returned (.tuple #[z, .bool true]) ∧ ExV w' z (formE e false) ∧ Below w.heap.size w w' := by
  have htr : truE s e = true := by
    cases ht : truE s e with
    | true => rfl
    | false => have := (cnt_told s e).2.1 ht; omega
  have HC := Lib.hid (fun W (hb : Below w.heap.size w W) => nnf_Count a b c d s e W v he (hs.below hb) (hv.below hb) (hg.below hb) (hT.below hb))
  have HZ := Lib.hid (form_noZ htr false)
  have HNF := Lib.hid (fun g ty W (hb : Below w.heap.size w W) (hF : FnAt g ty W) => norm_form s e htr false g ty W v (hv.below hb) hF)
  generalize formE e false = y at *
  obtain ⟨sl, rfl, hr, hrow⟩ := hv
  obtain ⟨sa, sc, rfl⟩ := row_get hrow
  obtain ⟨N, hN⟩ : ∃ N, e.l.length = N := ⟨_, rfl⟩
  rw [hN] at HC HNF ⊢
  generalize e.op = p1 at *
  generalize e.t = p2 at *
  generalize e.n = p3 at *
  generalize e.m = p4 at *
  generalize cntE s e = Z at *
  have q1 : (24 < Z) = False := eq_false hc
  obtain ⟨W0, hW0⟩ : ∃ W0, W0 = ((w.alloc (.cells #[a, b, c, d] 43)).alloc (.cells #[.int .i64 p1, .int .i64 p2, .int .i64 p3, .int .i64 p4, .slice sa N sc] 37)).alloc (.cells #[.int .i64 0, .int .i64 0, .int .i64 0, .int .i64 0, .slice none 0 0] 37) := ⟨_, rfl⟩
  have oE : W0.heap[w.heap.size + 1]? = some (.cells #[.int .i64 p1, .int .i64 p2, .int .i64 p3, .int .i64 p4, .slice sa N sc] 37) := by rw [hW0]; exact (get_past (by simp)).trans (get_last (by simp))
  have oR : W0.heap[w.heap.size + 1 + 1]? = some (.cells #[.int .i64 0, .int .i64 0, .int .i64 0, .int .i64 0, .slice none 0 0] 37) := by rw [hW0]; exact get_last (by simp)
  have hbw : Below w.heap.size w W0 := by rw [hW0]; exact by (repeat' (first | (with_reducible exact Below.refl _ _) | (with_reducible assumption) | (with_reducible refine below_drewN ?_ _) | (with_reducible refine Below.alloc ?_ ?_ _) | (with_reducible refine Below.drew ?_) | (with_reducible refine Below.setCell ?_ ?_ _) | go_size))
  have HW0 := Lib.hid hW0
  have HB0 := Lib.hid hbw
  clear hW0 hr hrow he hs hg hT hc hN hbw htr
  go_enter Tryd.func16, Tryd.ntmps16
  go_wp2_with fail
  refine (HC.out _ (by (repeat' (first | (with_reducible exact Below.refl _ _) | (with_reducible assumption) | (with_reducible refine below_drewN ?_ _) | (with_reducible refine Below.alloc ?_ ?_ _) | (with_reducible refine Below.drew ?_) | (with_reducible refine Below.setCell ?_ ?_ _) | go_size)))).mono ?_; rintro r w1 ⟨rfl, hb⟩
  rw [← HW0.out] at hb
  have R1 := Lib.hid (obj_below oR hb (heap_lt oR))
  have E1 := Lib.hid (obj_below oE hb (heap_lt oE))
  have B1 := Lib.hid (HB0.out.trans (hb.mono HB0.out.size))
  clear hb oR oE HW0 HB0 HC
  go_upto_region 4 with fail
  have hb2 : Below w1.heap.size w1 (w1.alloc (.cells #[.nilFunc] 78)) := by (repeat' (first | (with_reducible exact Below.refl _ _) | (with_reducible assumption) | (with_reducible refine below_drewN ?_ _) | (with_reducible refine Below.alloc ?_ ?_ _) | (with_reducible refine Below.drew ?_) | (with_reducible refine Below.setCell ?_ ?_ _) | go_size))
  have oF : (w1.alloc (.cells #[.nilFunc] 78)).heap[w1.heap.size]? = some (.cells #[.nilFunc] 78) := get_last rfl
  generalize w1.alloc (.cells #[.nilFunc] 78) = w2 at *
  have R2 := Lib.hid (obj_below R1.out hb2 (heap_lt R1.out))
  have E2 := Lib.hid (obj_below E1.out hb2 (heap_lt E1.out))
  have B2 := Lib.hid (B1.out.trans (hb2.mono B1.out.size))
  have n1 : w.heap.size ≤ w1.heap.size := B1.out.size
  have n2 : w.heap.size + 1 + 1 < w1.heap.size := heap_lt R1.out
  have fz := obj_frozen oF 0
  have cz := obj_cell oF (i := 0) rfl
  have yf := heap_lt oF
  have HOF := Lib.hid oF
  clear hb2 oF R1 E1 B1
  generalize w1.heap.size = g at *
  go_upto_region 5 with fail
  have oG : FnAt g 78 (w2.setCell ⟨g, 0, none⟩ (.func (.func 45) #[] #[.pointer (some ⟨g, 0, none⟩)])) := obj_self HOF.out
  have oE3 : (w2.setCell ⟨g, 0, none⟩ (.func (.func 45) #[] #[.pointer (some ⟨g, 0, none⟩)])).heap[w.heap.size + 1]? = _ := (get_set (by show g ≠ w.heap.size + 1; omega)).trans E2.out
  have oR3 : (w2.setCell ⟨g, 0, none⟩ (.func (.func 45) #[] #[.pointer (some ⟨g, 0, none⟩)])).heap[w.heap.size + 1 + 1]? = _ := (get_set (by show g ≠ w.heap.size + 1 + 1; omega)).trans R2.out
  have hB3 : Below w.heap.size w (w2.setCell ⟨g, 0, none⟩ (.func (.func 45) #[] #[.pointer (some ⟨g, 0, none⟩)])) := B2.out.setCell n1 _
  generalize w2.setCell ⟨g, 0, none⟩ (.func (.func 45) #[] #[.pointer (some ⟨g, 0, none⟩)]) = w3 at *
  have HG := Lib.hid oG
  have R3 := Lib.hid oR3
  have B3 := Lib.hid hB3
  obtain ⟨e0, e1, e2, e3, e4⟩ := boxed_ex5 oE3
  have cF := obj_cell oG (i := 0) rfl
  have yF := heap_lt oG
  have yE := heap_lt oE3
  clear fz cz yf HOF R2 E2 B2 oE3 oR3 hB3 oG
  go_wp2_with fail
  refine (HNF.out g _ _ B3.out HG.out).mono ?_; rintro r w4 ⟨z, rfl, hz, hb⟩
  have HX := Lib.hid hz
  have R4 := Lib.hid (obj_below R3.out hb (heap_lt R3.out))
  have B4 := Lib.hid (B3.out.trans (hb.mono B3.out.size))
  obtain ⟨aa, k, cc, rfl⟩ := ex_form hz
  have f0 := obj_frozen R4.out 0
  have f1 := obj_frozen R4.out 1
  have f2 := obj_frozen R4.out 2
  have f3 := obj_frozen R4.out 3
  have f4 := obj_frozen R4.out 4
  obtain ⟨g0, g1, g2, g3, g4⟩ := boxed_ex5 R4.out
  have yr := heap_lt R4.out
  clear hb hz e0 e1 e2 e3 e4 cF yF yE
  go_wp2_with fail
  have so := set5 (.int .i64 y.op) (.int .i64 y.t) (.int .i64 y.n) (.int .i64 y.m) (.slice aa k cc) R4.out
  have HE := exV_over R4.out so.2 HZ.out HX.out
  have HB3 := below_sets (B := w.heap.size) (g := w.heap.size + 1 + 1) B4.out (by omega) (.int .i64 y.op) (.int .i64 y.t) (.int .i64 y.n) (.int .i64 y.m) (.slice aa k cc)
  generalize hW5 : (((((w4.setCell ⟨w.heap.size + 1 + 1, 0, none⟩ (.int .i64 y.op)).setCell ⟨w.heap.size + 1 + 1, 1, none⟩ (.int .i64 y.t)).setCell ⟨w.heap.size + 1 + 1, 2, none⟩ (.int .i64 y.n)).setCell ⟨w.heap.size + 1 + 1, 3, none⟩ (.int .i64 y.m)).setCell ⟨w.heap.size + 1 + 1, 4, none⟩ (.slice aa k cc)) = w5 at *
  obtain ⟨e0, e1, e2, e3, e4⟩ := boxed_ex5 so.1
  refine bodyPost_ret (by simp [results, Tryd.results16, go_sem, e0, e1, e2, e3, e4]; try rfl) rfl ?_
  exact ⟨_, rfl, HE, HB3⟩
end Go.Proofs.YtknbomikiakpmaaDoor

/- Layer 43: awake. -/
namespace Go.Proofs.YtknbomikiakpmaaDoor
open Go.RowKit
open NN
set_option linter.unusedSimpArgs false
set_option linter.unusedVariables false
def aE : Ex := ⟨3, 0, 0, 0, []⟩
def bE3 : Ex := ⟨3, 0, 1, 0, []⟩
def andE : Ex := ⟨7, 0, 0, 14, [aE, bE3]⟩
def notE : Ex := ⟨6, 0, 0, 17, [andE]⟩
def sc3 : Sc := ⟨[], [], [1, 1]⟩
theorem leaf_a : leafB sc3 aE = true := by
  unfold leafB
  rw [ty_nil sc3 aE rfl]
  decide
theorem leaf_b : leafB sc3 bE3 = true := by
  unfold leafB
  rw [ty_nil sc3 bE3 rfl]
  decide
theorem cnt_awake : cntE sc3 notE = 2 := by
  unfold notE andE
  rw [cntE_un, cntE_bin _ _ _ _ (by decide), cntE_leaf sc3 aE (by decide) (by decide), cntE_leaf sc3 bE3 (by decide) (by decide), leaf_a, leaf_b]
  decide
theorem form_awake : formE notE false = binE 15 ⟨6, 0, 0, 17, [aE]⟩ ⟨6, 0, 0, 17, [bE3]⟩ := by
  unfold notE andE
  rw [form_un, form_bin, if_pos (by decide), form_leaf _ _ (by decide) (by decide), form_leaf _ _ (by decide) (by decide)]
  rfl
theorem small_awake : SmallE 300 notE := by
  have h : sizeE notE = 4 := by
    unfold notE andE aE bE3
    rw [sizeE_mk, List.map_cons, List.map_nil, sizeE_mk, List.map_cons, List.map_cons, List.map_nil, sizeE_mk, sizeE_mk]
    rfl
  unfold SmallE
  rw [h]; omega
theorem row_int2 {W : World} {b : Nat} {ty : TypeId} {x y : Int} (h : W.heap[b]? = some (.cells #[.int .i64 x, .int .i64 y] ty)) (hx : I64 x) (hy : I64 y) : RowR 1 intR W (.slice (some ⟨b, 0, none⟩) 2 2) [x, y] := by
  refine Or.inr ⟨b, 0, 2, rfl, by simp, by simp, by unfold maxLen; decide, heap_lt h, fun i z hz => ?_⟩
  have hi : i < 2 := by simpa using lt_of_get hz
  match i, hi, hz with
  | 0, _, hz =>
    obtain rfl : x = z := by simpa using hz
    exact ⟨[.int .i64 x], rfl, fun j u hu => obj_cell h (by have := lt_of_get hu; simp at this; subst this; simpa using hu), rfl, hx⟩
  | 1, _, hz =>
    obtain rfl : y = z := by simpa using hz
    exact ⟨[.int .i64 y], rfl, fun j u hu => obj_cell h (by have := lt_of_get hu; simp at this; subst this; simpa using hu), rfl, hy⟩
set_option maxRecDepth 100000 in
set_option maxHeartbeats 4000000 in
theorem law43_awake (w : World) (hg : AGoes w) (hT : BTab w) : Calls Tryd.prog 8 #[] w fun r w' => r = .returned (.bool true) ∧ Below w.heap.size w w' := by
  have HN := Lib.hid (fun W v (a b c d : Value) (h : Below w.heap.size w W) (hs : ScAt W a b d sc3) (hv : ExV W v notE) => nnf_Norm_yes a b c d sc3 notE W v small_awake hs hv (hg.below h) (hT.below h) (by rw [cnt_awake]; decide))
  rw [form_awake] at HN
  clear hg hT
  obtain ⟨W0, hW0⟩ : ∃ W0, W0 = (((((w.alloc (.cells #[.int .i64 1, .int .i64 1] 3)).alloc (.cells #[.slice none 0 0, .slice none 0 0, .slice none 0 0, .slice (some ⟨w.heap.size, 0, none⟩) 2 2] 43)).alloc (.cells #[.int .i64 3, .int .i64 0, .int .i64 0, .int .i64 0, .slice none 0 0] 37)).alloc (.cells #[.int .i64 3, .int .i64 0, .int .i64 1, .int .i64 0, .slice none 0 0] 37)).alloc (.cells #[.int .i64 3, .int .i64 0, .int .i64 0, .int .i64 0, .slice none 0 0, .int .i64 3, .int .i64 0, .int .i64 1, .int .i64 0, .slice none 0 0] 37)).alloc (.cells #[.int .i64 7, .int .i64 0, .int .i64 0, .int .i64 14, .slice (some ⟨w.heap.size + 1 + 1 + 1 + 1, 0, none⟩) 2 2] 37) := ⟨_, rfl⟩
  have o0 : W0.heap[w.heap.size]? = some (.cells #[.int .i64 1, .int .i64 1] 3) := by rw [hW0]; exact (get_past (by simp; omega)).trans ((get_past (by simp; omega)).trans ((get_past (by simp; omega)).trans ((get_past (by simp; omega)).trans ((get_past (by simp)).trans (get_last rfl)))))
  have o4 : W0.heap[w.heap.size + 1 + 1 + 1 + 1]? = some (.cells #[.int .i64 3, .int .i64 0, .int .i64 0, .int .i64 0, .slice none 0 0, .int .i64 3, .int .i64 0, .int .i64 1, .int .i64 0, .slice none 0 0] 37) := by rw [hW0]; exact (get_past (by simp)).trans (get_last (by simp))
  have o5 : W0.heap[w.heap.size + 1 + 1 + 1 + 1 + 1]? = some (.cells #[.int .i64 7, .int .i64 0, .int .i64 0, .int .i64 14, .slice (some ⟨w.heap.size + 1 + 1 + 1 + 1, 0, none⟩) 2 2] 37) := by rw [hW0]; exact get_last (by simp)
  have hb0 : Below w.heap.size w W0 := by rw [hW0]; exact by (repeat' (first | (with_reducible exact Below.refl _ _) | (with_reducible assumption) | (with_reducible refine below_drewN ?_ _) | (with_reducible refine Below.alloc ?_ ?_ _) | (with_reducible refine Below.drew ?_) | (with_reducible refine Below.setCell ?_ ?_ _) | go_size))
  have i64 : ∀ z : Int, 0 ≤ z ∧ z ≤ 100 → I64 z := fun z h => by unfold I64; omega
  have hsc : ScAt W0 (.slice none 0 0) (.slice none 0 0) (.slice (some ⟨w.heap.size, 0, none⟩) 2 2) sc3 := ⟨row_none, row_none, row_int2 o0 (i64 _ (by omega)) (i64 _ (by omega))⟩
  have ha : ExV W0 (.agg #[.int .i64 3, .int .i64 0, .int .i64 0, .int .i64 0, .slice none 0 0]) aE := exV_lit ⟨i64 _ (by omega), i64 _ (by omega), i64 _ (by omega), i64 _ (by omega)⟩ row_none
  have hb : ExV W0 (.agg #[.int .i64 3, .int .i64 0, .int .i64 1, .int .i64 0, .slice none 0 0]) bE3 := exV_lit ⟨i64 _ (by omega), i64 _ (by omega), i64 _ (by omega), i64 _ (by omega)⟩ row_none
  have hand : ExV W0 (.agg #[.int .i64 7, .int .i64 0, .int .i64 0, .int .i64 14, .slice (some ⟨w.heap.size + 1 + 1 + 1 + 1, 0, none⟩) 2 2]) andE := exV_lit ⟨i64 _ (by omega), i64 _ (by omega), i64 _ (by omega), i64 _ (by omega)⟩ (row_ex2 (C := exC 3 0 0 0 (.slice none 0 0)) (D := exC 3 0 1 0 (.slice none 0 0)) o4 rfl rfl (exR_of ha) (exR_of hb))
  have hnot : ExV W0 (.agg #[.int .i64 6, .int .i64 0, .int .i64 0, .int .i64 17, .slice (some ⟨w.heap.size + 1 + 1 + 1 + 1 + 1, 0, none⟩) 1 1]) notE := exV_lit ⟨i64 _ (by omega), i64 _ (by omega), i64 _ (by omega), i64 _ (by omega)⟩ (row_ex1 (C := exC 7 0 0 14 (.slice (some ⟨w.heap.size + 1 + 1 + 1 + 1, 0, none⟩) 2 2)) o5 rfl (exR_of hand))
  have HC := Lib.hid (HN.out W0 _ (.slice none 0 0) (.slice none 0 0) (.slice none 0 0) _ hb0 hsc hnot)
  have HB0 := Lib.hid hb0
  have HW0 := Lib.hid hW0
  clear hW0 o0 o4 o5 hb0 i64 hsc ha hb hand hnot HN
  go_enter Tryd.func8, Tryd.ntmps8
  go_wp2_with fail
  rw [← HW0.out]
  refine HC.out.mono ?_; rintro r w2 ⟨z, rfl, hz, hb⟩
  have HB2 := Lib.hid (HB0.out.trans (hb.mono HB0.out.size))
  obtain ⟨sl, rfl, _, hrow⟩ := hz
  obtain ⟨sa, sc, rfl⟩ := row_get hrow
  obtain ⟨bx, ox, ss, sn, sc2, rfl, hbx, _, _, d0, _, _, _, _, _⟩ := ex_at hrow (k := 1) (x := ⟨6, 0, 0, 17, [bE3]⟩) rfl
  replace d0 : w2.cell? ⟨bx, ox + 5, none⟩ = some (.int .i64 6) := by simpa using d0
  have hlb : (binE 15 ⟨6, 0, 0, 17, [aE]⟩ ⟨6, 0, 0, 17, [bE3]⟩).l.length = 2 := rfl
  rw [hlb]
  have hbo : (binE 15 ⟨6, 0, 0, 17, [aE]⟩ ⟨6, 0, 0, 17, [bE3]⟩).op = 7 := rfl
  have hbt : (binE 15 ⟨6, 0, 0, 17, [aE]⟩ ⟨6, 0, 0, 17, [bE3]⟩).t = 0 := rfl
  have hbn : (binE 15 ⟨6, 0, 0, 17, [aE]⟩ ⟨6, 0, 0, 17, [bE3]⟩).n = 0 := rfl
  have hbm : (binE 15 ⟨6, 0, 0, 17, [aE]⟩ ⟨6, 0, 0, 17, [bE3]⟩).m = 15 := rfl
  rw [hbo, hbt, hbn, hbm]
  clear hrow hlb hbo hbt hbn hbm hb
  have D := Lib.hid d0
  have HX := Lib.hid hbx
  clear d0 hbx
  go_upto_region 4 with fail
  have oN : (w2.alloc (.cells #[.int .i64 7, .int .i64 0, .int .i64 0, .int .i64 15, .slice (some ⟨bx, ox, none⟩) 2 sc] 37)).heap[w2.heap.size]? = some (.cells #[.int .i64 7, .int .i64 0, .int .i64 0, .int .i64 15, .slice (some ⟨bx, ox, none⟩) 2 sc] 37) := get_last rfl
  have hb3 : Below w2.heap.size w2 (w2.alloc (.cells #[.int .i64 7, .int .i64 0, .int .i64 0, .int .i64 15, .slice (some ⟨bx, ox, none⟩) 2 sc] 37)) := by (repeat' (first | (with_reducible exact Below.refl _ _) | (with_reducible assumption) | (with_reducible refine below_drewN ?_ _) | (with_reducible refine Below.alloc ?_ ?_ _) | (with_reducible refine Below.drew ?_) | (with_reducible refine Below.setCell ?_ ?_ _) | go_size))
  generalize w2.alloc (.cells #[.int .i64 7, .int .i64 0, .int .i64 0, .int .i64 15, .slice (some ⟨bx, ox, none⟩) 2 sc] 37) = w3 at *
  have HB3 := Lib.hid (HB2.out.trans (hb3.mono HB2.out.size))
  have c5 := (hb3.cell (p := ⟨bx, ox + 5, none⟩) HX.out).trans D.out
  have yb : bx < w3.heap.size := Nat.lt_of_lt_of_le HX.out hb3.size
  have yn := heap_lt oN
  obtain ⟨n0, n1, n2, n3, n4⟩ := boxed_ex5 oN
  clear oN hb3 HB2 HB0 HW0
  generalize w2.heap.size = q at *
  go_wp2_with fail
  go_ret
  exact ⟨rfl, HB3.out⟩
end Go.Proofs.YtknbomikiakpmaaDoor
