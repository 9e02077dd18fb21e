/- Layer 17: the walk of DeclChecks. -/
import Derived.Test.YtogmbfhefblbjaaSameScope
namespace Go.Proofs.Ytogmbfhefblbjaa
open Go.RowKit
set_option linter.unusedSimpArgs false
set_option linter.unusedVariables false
set_option maxHeartbeats 8000000 in
theorem declChecks_walk (pa pb pc pd : Value) (p : Pr) (u : Int) (w : World) (hp : PrAt w pa pb pc pd p) :
    Calls Try.prog 3 #[.agg #[pa, pb, pc, pd], .int .i64 u] w fun e w' => e = .returned (.bool true) ∧ Below w.heap.size w w' := by
  have hAw := law17_awake
  obtain ⟨sa, ca, rfl⟩ := row_get hp.cs
  obtain ⟨sb, cb, rfl⟩ := row_get hp.vs
  obtain ⟨sc, cc, rfl⟩ := row_get hp.bs
  obtain ⟨sd, cd, rfl⟩ := row_get hp.us
  obtain ⟨W1, hW1⟩ : ∃ W1, W1 = w.alloc (.cells #[.slice sa p.consts.length ca, .slice sb p.vars.length cb, .slice sc p.blocks.length cc, .slice sd p.units.length cd] 27) := ⟨_, rfl⟩
  have hb : Below w.heap.size w W1 := by rw [hW1]; exact by (repeat' (first | (with_reducible exact Below.refl _ _) | (with_reducible assumption) | (with_reducible refine below_drewN ?_ _) | (with_reducible refine Below.alloc ?_ ?_ _) | (with_reducible refine Below.drew ?_) | (with_reducible refine Below.setCell ?_ ?_ _) | go_size))
  have hz : W1.heap.size = w.heap.size + 1 := by rw [hW1]; simp
  have hj : W1.heap[w.heap.size]? = some (.cells #[.slice sa p.consts.length ca, .slice sb p.vars.length cb, .slice sc p.blocks.length cc, .slice sd p.units.length cd] 27) := by rw [hW1]; exact get_last rfl
  have HFw := law16_Few _ _ _ _ p W1 (hp.below hb)
  have c0 := obj_cell hj (i := 0) rfl
  have c1 := obj_cell hj (i := 1) rfl
  have c2 := obj_cell hj (i := 2) rfl
  have c3 := obj_cell hj (i := 3) rfl
  have HJ := Lib.hid hj
  have HW1 := Lib.hid hW1
  have HB := Lib.hid hb
  have HP := Lib.hid hp
  clear hW1 hb hj hp
  cases hfew : fewP p
  · rw [hfew] at HFw
    go_enter Try.func3, Try.ntmps3
    go_upto_region 1 with fail
    rw [← HW1.out]
    go_wp2_with fail
    refine HFw.mono ?_; rintro e w2 ⟨rfl, hb2⟩
    go_wp2_with fail
    refine (hAw _).mono ?_; rintro e w3 ⟨rfl, hb3⟩
    go_wp2_with fail
    go_ret
    exact ⟨rfl, HB.out.trans ((hb2.trans (hb3.mono hb2.size)).mono HB.out.size)⟩
  rw [hfew] at HFw
  have hfew' := of_decide_eq_true hfew
  have HFU := Lib.hid hfew'.2.2.2
  obtain ⟨f1, f2, f3, f4⟩ := hfew'.1
  have HTa := Lib.hid (fun W (h : Below w.heap.size w W) => decl_Tables _ _ p.vars p.blocks W (HP.out.vs.below varR_stable h) (HP.out.bs.below blkR_stable h))
  have HTb := Lib.hid (fun W (h : Below w.heap.size w W) => ref17_Tables _ _ p.vars p.blocks W (HP.out.vs.below varR_stable h) (HP.out.bs.below blkR_stable h))
  have HCa := Lib.hid (fun W (h : Below w.heap.size w W) => decl_Check _ _ _ _ p W (HP.out.below h) HFU.out)
  have HCb := Lib.hid (fun W (h : Below w.heap.size w W) => ref17_Check _ _ _ _ p W (HP.out.below h) hfew)
  have HSa := Lib.hid (fun W (h : Below w.heap.size w W) => decl_Scope _ _ _ _ p u W (HP.out.below h) hfew)
  have HSb := Lib.hid (fun W (h : Below w.heap.size w W) => ref17_Scope _ _ _ _ p u W (HP.out.below h) hfew)
  have hul := HP.out.us.len
  clear hfew hfew'
  go_enter Try.func3, Try.ntmps3
  go_upto_region 1 with fail
  rw [← HW1.out]
  go_wp2_with fail
  refine HFw.mono ?_; rintro e W2 ⟨rfl, hb2⟩
  have hj2 := obj_below HJ.out hb2 (by omega)
  have HB2 := Lib.hid (HB.out.trans (hb2.mono HB.out.size))
  clear c0 c1 c2 c3 hb2 HFw HJ
  have c0 := obj_cell hj2 (i := 0) rfl
  have c1 := obj_cell hj2 (i := 1) rfl
  have c2 := obj_cell hj2 (i := 2) rfl
  have c3 := obj_cell hj2 (i := 3) rfl
  have zp := heap_lt hj2
  have HJ2 := Lib.hid hj2
  clear hj2
  go_upto_region 3 with fail
  refine wp_region_held_drew (S := (fun w' => Below W2.heap.size W2 w')) (by kernel_rfl) ?_ (fun hHeld => ?_)
  · (try dsimp only); first | assumption | exact Below.alloc hHeld hHeld.size _ | exact (Below.refl _ _).drew | exact Below.drew (Below.refl _ _) | exact Below_drewN _ _ _ | exact Below.refl _ _ | (trace_state; fail)
  refine wpAnyH_take (i := 0) (oi := { dst := some 11, op := Op.fieldAddr 27 (Operand.tmp 2) 1, type := 0, pos := _, after := #[], guard := none }) (v := ?_) rfl (by kernel_rfl) (by kernel_rfl) (by kernel_rfl) (fun _ _ _ h => h) (Or.inl ⟨by rfl, ?_⟩) (by assumption) ?_
  rotate_left
  · intro wt hSw; (try dsimp only at hSw); have c0 := cellB hSw c0 zp; have c1 := cellB hSw c1 zp; have c2 := cellB hSw c2 zp; have c3 := cellB hSw c3 zp; first | (go_simp; done) | (go_simp; with_reducible rfl) | (trace_state; fail)
  try simp only [Act.put, List.setIfInBounds_toArray, List.set_cons_zero, List.set_cons_succ]
  refine wpAnyH_take (i := 1) (oi := { dst := some 12, op := Op.load 23 (Operand.tmp 11), type := 23, pos := _, after := #[{ on := 0, ground := Ground.data }], guard := none }) (v := ?_) rfl (by kernel_rfl) (by kernel_rfl) (by kernel_rfl) (fun _ _ _ h => h) (Or.inl ⟨by rfl, ?_⟩) (by assumption) ?_
  rotate_left
  · intro wt hSw; (try dsimp only at hSw); have c0 := cellB hSw c0 zp; have c1 := cellB hSw c1 zp; have c2 := cellB hSw c2 zp; have c3 := cellB hSw c3 zp; first | (go_simp; done) | (go_simp; with_reducible rfl) | (trace_state; fail)
  try simp only [Act.put, List.setIfInBounds_toArray, List.set_cons_zero, List.set_cons_succ]
  refine wpAnyH_take (i := 2) (oi := { dst := some 13, op := Op.fieldAddr 27 (Operand.tmp 2) 2, type := 0, pos := _, after := #[], guard := none }) (v := ?_) rfl (by kernel_rfl) (by kernel_rfl) (by kernel_rfl) (fun _ _ _ h => h) (Or.inl ⟨by rfl, ?_⟩) (by assumption) ?_
  rotate_left
  · intro wt hSw; (try dsimp only at hSw); have c0 := cellB hSw c0 zp; have c1 := cellB hSw c1 zp; have c2 := cellB hSw c2 zp; have c3 := cellB hSw c3 zp; first | (go_simp; done) | (go_simp; with_reducible rfl) | (trace_state; fail)
  try simp only [Act.put, List.setIfInBounds_toArray, List.set_cons_zero, List.set_cons_succ]
  refine wpAnyH_take (i := 3) (oi := { dst := some 14, op := Op.load 24 (Operand.tmp 13), type := 24, pos := _, after := #[{ on := 2, ground := Ground.data }], guard := none }) (v := ?_) rfl (by kernel_rfl) (by kernel_rfl) (by kernel_rfl) (fun _ _ _ h => h) (Or.inl ⟨by rfl, ?_⟩) (by assumption) ?_
  rotate_left
  · intro wt hSw; (try dsimp only at hSw); have c0 := cellB hSw c0 zp; have c1 := cellB hSw c1 zp; have c2 := cellB hSw c2 zp; have c3 := cellB hSw c3 zp; first | (go_simp; done) | (go_simp; with_reducible rfl) | (trace_state; fail)
  try simp only [Act.put, List.setIfInBounds_toArray, List.set_cons_zero, List.set_cons_succ]
  refine wpAnyH_take (i := 5) (oi := { dst := some 16, op := Op.fieldAddr 27 (Operand.tmp 2) 1, type := 0, pos := _, after := #[], guard := none }) (v := ?_) rfl (by kernel_rfl) (by kernel_rfl) (by kernel_rfl) (fun _ _ _ h => h) (Or.inl ⟨by rfl, ?_⟩) (by assumption) ?_
  rotate_left
  · intro wt hSw; (try dsimp only at hSw); have c0 := cellB hSw c0 zp; have c1 := cellB hSw c1 zp; have c2 := cellB hSw c2 zp; have c3 := cellB hSw c3 zp; first | (go_simp; done) | (go_simp; with_reducible rfl) | (trace_state; fail)
  try simp only [Act.put, List.setIfInBounds_toArray, List.set_cons_zero, List.set_cons_succ]
  refine wpAnyH_take (i := 6) (oi := { dst := some 17, op := Op.load 23 (Operand.tmp 16), type := 23, pos := _, after := #[{ on := 5, ground := Ground.data }], guard := none }) (v := ?_) rfl (by kernel_rfl) (by kernel_rfl) (by kernel_rfl) (fun _ _ _ h => h) (Or.inl ⟨by rfl, ?_⟩) (by assumption) ?_
  rotate_left
  · intro wt hSw; (try dsimp only at hSw); have c0 := cellB hSw c0 zp; have c1 := cellB hSw c1 zp; have c2 := cellB hSw c2 zp; have c3 := cellB hSw c3 zp; first | (go_simp; done) | (go_simp; with_reducible rfl) | (trace_state; fail)
  try simp only [Act.put, List.setIfInBounds_toArray, List.set_cons_zero, List.set_cons_succ]
  refine wpAnyH_take (i := 7) (oi := { dst := some 18, op := Op.fieldAddr 27 (Operand.tmp 2) 2, type := 0, pos := _, after := #[], guard := none }) (v := ?_) rfl (by kernel_rfl) (by kernel_rfl) (by kernel_rfl) (fun _ _ _ h => h) (Or.inl ⟨by rfl, ?_⟩) (by assumption) ?_
  rotate_left
  · intro wt hSw; (try dsimp only at hSw); have c0 := cellB hSw c0 zp; have c1 := cellB hSw c1 zp; have c2 := cellB hSw c2 zp; have c3 := cellB hSw c3 zp; first | (go_simp; done) | (go_simp; with_reducible rfl) | (trace_state; fail)
  try simp only [Act.put, List.setIfInBounds_toArray, List.set_cons_zero, List.set_cons_succ]
  refine wpAnyH_take (i := 8) (oi := { dst := some 19, op := Op.load 24 (Operand.tmp 18), type := 24, pos := _, after := #[{ on := 7, ground := Ground.data }], guard := none }) (v := ?_) rfl (by kernel_rfl) (by kernel_rfl) (by kernel_rfl) (fun _ _ _ h => h) (Or.inl ⟨by rfl, ?_⟩) (by assumption) ?_
  rotate_left
  · intro wt hSw; (try dsimp only at hSw); have c0 := cellB hSw c0 zp; have c1 := cellB hSw c1 zp; have c2 := cellB hSw c2 zp; have c3 := cellB hSw c3 zp; first | (go_simp; done) | (go_simp; with_reducible rfl) | (trace_state; fail)
  try simp only [Act.put, List.setIfInBounds_toArray, List.set_cons_zero, List.set_cons_succ]
  refine wpAnyH_ready (rs := [4]) (by kernel_rfl) (by simp) ?_
  refine AllReadyH.cons (o := { dst := some 15, op := Op.call { callee := Callee.value (Operand.func 7), args := #[Operand.tmp 12, Operand.tmp 14], argTypes := #[23, 24] }, type := 30, pos := _, after := #[{ on := 1, ground := Ground.data }, { on := 3, ground := Ground.data }], guard := none }) rfl (fun K hK => ?_) AllReadyH.nil
  go_simp
  refine (HTa.out _ (HB2.out.trans (hHeld.mono HB2.out.size))).mono ?_; rintro e v1 ⟨rfl, hb⟩; have hHeld := hHeld.trans (hb.mono hHeld.size); clear hb
  go_wp2_with fail
  refine hK.out _ _ ?_ (fun hHeld => ?_)
  · (try dsimp only); first | assumption | exact Below.alloc hHeld hHeld.size _ | exact (Below.refl _ _).drew | exact Below.drew (Below.refl _ _) | exact Below_drewN _ _ _ | exact Below.refl _ _ | (trace_state; fail)
  clear hK K
  try simp only [Act.put, List.setIfInBounds_toArray, List.set_cons_zero, List.set_cons_succ]
  refine wpAnyH_ready (rs := [9]) (by kernel_rfl) (by simp) ?_
  refine AllReadyH.cons (o := { dst := some 20, op := Op.call { callee := Callee.value (Operand.func 8), args := #[Operand.tmp 17, Operand.tmp 19], argTypes := #[23, 24] }, type := 30, pos := _, after := #[{ on := 6, ground := Ground.data }, { on := 8, ground := Ground.data }, { on := 4, ground := Ground.chain }], guard := none }) rfl (fun K hK => ?_) AllReadyH.nil
  go_simp
  refine (HTb.out _ (HB2.out.trans (hHeld.mono HB2.out.size))).mono ?_; rintro e v2 ⟨rfl, hb⟩; have hHeld := hHeld.trans (hb.mono hHeld.size); clear hb
  go_wp2_with fail
  refine hK.out _ _ ?_ (fun hHeld => ?_)
  · (try dsimp only); first | assumption | exact Below.alloc hHeld hHeld.size _ | exact (Below.refl _ _).drew | exact Below.drew (Below.refl _ _) | exact Below_drewN _ _ _ | exact Below.refl _ _ | (trace_state; fail)
  clear hK K
  try simp only [Act.put, List.setIfInBounds_toArray, List.set_cons_zero, List.set_cons_succ]
  refine wpAnyH_take (i := 10) (oi := { dst := some 21, op := Op.binOp BinOp.neq 30 (Operand.tmp 15) (Operand.tmp 20) 30, type := 4, pos := _, after := #[{ on := 4, ground := Ground.data }, { on := 9, ground := Ground.data }], guard := none }) (v := ?_) rfl (by kernel_rfl) (by kernel_rfl) (by kernel_rfl) (fun _ _ _ h => h) (Or.inl ⟨by rfl, ?_⟩) (by assumption) ?_
  rotate_left
  · intro wt hSw; (try dsimp only at hSw); have c0 := cellB hSw c0 zp; have c1 := cellB hSw c1 zp; have c2 := cellB hSw c2 zp; have c3 := cellB hSw c3 zp; first | (go_simp; done) | (go_simp; with_reducible rfl) | (trace_state; fail)
  try simp only [Act.put, List.setIfInBounds_toArray, List.set_cons_zero, List.set_cons_succ]
  refine wpAnyH_take (i := 11) (oi := { dst := some 22, op := Op.move (Operand.tmp 21), type := 4, pos := _, after := #[{ on := 10, ground := Ground.data }, { on := 9, ground := Ground.chain }], guard := none }) (v := ?_) rfl (by kernel_rfl) (by kernel_rfl) (by kernel_rfl) (fun _ _ _ h => h) (Or.inl ⟨by rfl, ?_⟩) (by assumption) ?_
  rotate_left
  · intro wt hSw; (try dsimp only at hSw); have c0 := cellB hSw c0 zp; have c1 := cellB hSw c1 zp; have c2 := cellB hSw c2 zp; have c3 := cellB hSw c3 zp; first | (go_simp; done) | (go_simp; with_reducible rfl) | (trace_state; fail)
  try simp only [Act.put, List.setIfInBounds_toArray, List.set_cons_zero, List.set_cons_succ]
  refine wpAnyH_take (i := 12) (oi := { dst := some 23, op := Op.load 27 (Operand.tmp 2), type := 27, pos := _, after := #[{ on := 11, ground := Ground.guard }], guard := some (11, false) }) (v := ?_) rfl (by kernel_rfl) (by kernel_rfl) (by kernel_rfl) (fun _ _ _ h => h) (Or.inl ⟨by rfl, ?_⟩) (by assumption) ?_
  rotate_left
  · intro wt hSw; (try dsimp only at hSw); have c0 := cellB hSw c0 zp; have c1 := cellB hSw c1 zp; have c2 := cellB hSw c2 zp; have c3 := cellB hSw c3 zp; first | (go_simp; done) | (go_simp; with_reducible rfl) | (trace_state; fail)
  try simp only [Act.put, List.setIfInBounds_toArray, List.set_cons_zero, List.set_cons_succ]
  refine wpAnyH_take (i := 14) (oi := { dst := some 25, op := Op.load 27 (Operand.tmp 2), type := 27, pos := _, after := #[{ on := 11, ground := Ground.guard }], guard := some (11, false) }) (v := ?_) rfl (by kernel_rfl) (by kernel_rfl) (by kernel_rfl) (fun _ _ _ h => h) (Or.inl ⟨by rfl, ?_⟩) (by assumption) ?_
  rotate_left
  · intro wt hSw; (try dsimp only at hSw); have c0 := cellB hSw c0 zp; have c1 := cellB hSw c1 zp; have c2 := cellB hSw c2 zp; have c3 := cellB hSw c3 zp; first | (go_simp; done) | (go_simp; with_reducible rfl) | (trace_state; fail)
  try simp only [Act.put, List.setIfInBounds_toArray, List.set_cons_zero, List.set_cons_succ]
  refine wpAnyH_ready (rs := [13]) (by kernel_rfl) (by simp) ?_
  refine AllReadyH.cons (o := { dst := some 24, op := Op.call { callee := Callee.value (Operand.func 9), args := #[Operand.tmp 23], argTypes := #[27] }, type := 30, pos := _, after := #[{ on := 12, ground := Ground.data }, { on := 11, ground := Ground.chain }, { on := 11, ground := Ground.guard }], guard := some (11, false) }) rfl (fun K hK => ?_) AllReadyH.nil
  go_simp
  refine (HCa.out _ (HB2.out.trans (hHeld.mono HB2.out.size))).mono ?_; rintro e v3 ⟨rfl, hb⟩; have hHeld := hHeld.trans (hb.mono hHeld.size); clear hb
  go_wp2_with fail
  refine hK.out _ _ ?_ (fun hHeld => ?_)
  · (try dsimp only); first | assumption | exact Below.alloc hHeld hHeld.size _ | exact (Below.refl _ _).drew | exact Below.drew (Below.refl _ _) | exact Below_drewN _ _ _ | exact Below.refl _ _ | (trace_state; fail)
  clear hK K
  try simp only [Act.put, List.setIfInBounds_toArray, List.set_cons_zero, List.set_cons_succ]
  refine wpAnyH_ready (rs := [15]) (by kernel_rfl) (by simp) ?_
  refine AllReadyH.cons (o := { dst := some 26, op := Op.call { callee := Callee.value (Operand.func 10), args := #[Operand.tmp 25], argTypes := #[27] }, type := 30, pos := _, after := #[{ on := 14, ground := Ground.data }, { on := 13, ground := Ground.chain }, { on := 11, ground := Ground.guard }], guard := some (11, false) }) rfl (fun K hK => ?_) AllReadyH.nil
  go_simp
  refine (HCb.out _ (HB2.out.trans (hHeld.mono HB2.out.size))).mono ?_; rintro e v4 ⟨rfl, hb⟩; have hHeld := hHeld.trans (hb.mono hHeld.size); clear hb
  go_wp2_with fail
  refine hK.out _ _ ?_ (fun hHeld => ?_)
  · (try dsimp only); first | assumption | exact Below.alloc hHeld hHeld.size _ | exact (Below.refl _ _).drew | exact Below.drew (Below.refl _ _) | exact Below_drewN _ _ _ | exact Below.refl _ _ | (trace_state; fail)
  clear hK K
  try simp only [Act.put, List.setIfInBounds_toArray, List.set_cons_zero, List.set_cons_succ]
  refine wpAnyH_take (i := 16) (oi := { dst := some 27, op := Op.binOp BinOp.neq 30 (Operand.tmp 24) (Operand.tmp 26) 30, type := 4, pos := _, after := #[{ on := 13, ground := Ground.data }, { on := 15, ground := Ground.data }, { on := 11, ground := Ground.guard }], guard := some (11, false) }) (v := ?_) rfl (by kernel_rfl) (by kernel_rfl) (by kernel_rfl) (fun _ _ _ h => h) (Or.inl ⟨by rfl, ?_⟩) (by assumption) ?_
  rotate_left
  · intro wt hSw; (try dsimp only at hSw); have c0 := cellB hSw c0 zp; have c1 := cellB hSw c1 zp; have c2 := cellB hSw c2 zp; have c3 := cellB hSw c3 zp; first | (go_simp; done) | (go_simp; with_reducible rfl) | (trace_state; fail)
  try simp only [Act.put, List.setIfInBounds_toArray, List.set_cons_zero, List.set_cons_succ]
  refine wpAnyH_take (i := 17) (oi := { dst := some 28, op := Op.pick (Operand.tmp 22) (Operand.const (Value.bool true)) (Operand.tmp 27), type := 4, pos := _, after := #[{ on := 11, ground := Ground.data }, { on := 16, ground := Ground.data }], guard := none }) (v := ?_) rfl (by kernel_rfl) (by kernel_rfl) (by kernel_rfl) (fun _ _ _ h => h) (Or.inl ⟨by rfl, ?_⟩) (by assumption) ?_
  rotate_left
  · intro wt hSw; (try dsimp only at hSw); have c0 := cellB hSw c0 zp; have c1 := cellB hSw c1 zp; have c2 := cellB hSw c2 zp; have c3 := cellB hSw c3 zp; first | (go_simp; done) | (go_simp; with_reducible rfl) | (trace_state; fail)
  try simp only [Act.put, List.setIfInBounds_toArray, List.set_cons_zero, List.set_cons_succ]
  refine wpAnyH_take (i := 18) (oi := { dst := some 29, op := Op.move (Operand.tmp 28), type := 4, pos := _, after := #[{ on := 17, ground := Ground.data }, { on := 15, ground := Ground.chain }], guard := none }) (v := ?_) rfl (by kernel_rfl) (by kernel_rfl) (by kernel_rfl) (fun _ _ _ h => h) (Or.inl ⟨by rfl, ?_⟩) (by assumption) ?_
  rotate_left
  · intro wt hSw; (try dsimp only at hSw); have c0 := cellB hSw c0 zp; have c1 := cellB hSw c1 zp; have c2 := cellB hSw c2 zp; have c3 := cellB hSw c3 zp; first | (go_simp; done) | (go_simp; with_reducible rfl) | (trace_state; fail)
  try simp only [Act.put, List.setIfInBounds_toArray, List.set_cons_zero, List.set_cons_succ]
  refine wpAnyH_take (i := 19) (oi := { dst := some 30, op := Op.load 27 (Operand.tmp 2), type := 27, pos := _, after := #[{ on := 18, ground := Ground.guard }], guard := some (18, false) }) (v := ?_) rfl (by kernel_rfl) (by kernel_rfl) (by kernel_rfl) (fun _ _ _ h => h) (Or.inl ⟨by rfl, ?_⟩) (by assumption) ?_
  rotate_left
  · intro wt hSw; (try dsimp only at hSw); have c0 := cellB hSw c0 zp; have c1 := cellB hSw c1 zp; have c2 := cellB hSw c2 zp; have c3 := cellB hSw c3 zp; first | (go_simp; done) | (go_simp; with_reducible rfl) | (trace_state; fail)
  try simp only [Act.put, List.setIfInBounds_toArray, List.set_cons_zero, List.set_cons_succ]
  refine wpAnyH_take (i := 20) (oi := { dst := some 31, op := Op.move (Operand.tmp 1), type := 3, pos := _, after := #[{ on := 18, ground := Ground.guard }], guard := some (18, false) }) (v := ?_) rfl (by kernel_rfl) (by kernel_rfl) (by kernel_rfl) (fun _ _ _ h => h) (Or.inl ⟨by rfl, ?_⟩) (by assumption) ?_
  rotate_left
  · intro wt hSw; (try dsimp only at hSw); have c0 := cellB hSw c0 zp; have c1 := cellB hSw c1 zp; have c2 := cellB hSw c2 zp; have c3 := cellB hSw c3 zp; first | (go_simp; done) | (go_simp; with_reducible rfl) | (trace_state; fail)
  try simp only [Act.put, List.setIfInBounds_toArray, List.set_cons_zero, List.set_cons_succ]
  refine wpAnyH_take (i := 22) (oi := { dst := some 33, op := Op.load 27 (Operand.tmp 2), type := 27, pos := _, after := #[{ on := 18, ground := Ground.guard }], guard := some (18, false) }) (v := ?_) rfl (by kernel_rfl) (by kernel_rfl) (by kernel_rfl) (fun _ _ _ h => h) (Or.inl ⟨by rfl, ?_⟩) (by assumption) ?_
  rotate_left
  · intro wt hSw; (try dsimp only at hSw); have c0 := cellB hSw c0 zp; have c1 := cellB hSw c1 zp; have c2 := cellB hSw c2 zp; have c3 := cellB hSw c3 zp; first | (go_simp; done) | (go_simp; with_reducible rfl) | (trace_state; fail)
  try simp only [Act.put, List.setIfInBounds_toArray, List.set_cons_zero, List.set_cons_succ]
  refine wpAnyH_take (i := 23) (oi := { dst := some 34, op := Op.move (Operand.tmp 1), type := 3, pos := _, after := #[{ on := 18, ground := Ground.guard }], guard := some (18, false) }) (v := ?_) rfl (by kernel_rfl) (by kernel_rfl) (by kernel_rfl) (fun _ _ _ h => h) (Or.inl ⟨by rfl, ?_⟩) (by assumption) ?_
  rotate_left
  · intro wt hSw; (try dsimp only at hSw); have c0 := cellB hSw c0 zp; have c1 := cellB hSw c1 zp; have c2 := cellB hSw c2 zp; have c3 := cellB hSw c3 zp; first | (go_simp; done) | (go_simp; with_reducible rfl) | (trace_state; fail)
  try simp only [Act.put, List.setIfInBounds_toArray, List.set_cons_zero, List.set_cons_succ]
  refine wpAnyH_ready (rs := [21]) (by kernel_rfl) (by simp) ?_
  refine AllReadyH.cons (o := { dst := some 32, op := Op.call { callee := Callee.value (Operand.func 12), args := #[Operand.tmp 30, Operand.tmp 31], argTypes := #[27, 3] }, type := 37, pos := _, after := #[{ on := 19, ground := Ground.data }, { on := 20, ground := Ground.data }, { on := 18, ground := Ground.chain }, { on := 18, ground := Ground.guard }], guard := some (18, false) }) rfl (fun K hK => ?_) AllReadyH.nil
  go_simp
  refine (HSa.out _ (HB2.out.trans (hHeld.mono HB2.out.size))).mono ?_; rintro e v5 ⟨x1, x2, x3, x4, rfl, hs1, hb⟩; have hHeld := hHeld.trans (hb.mono hHeld.size); have Hs1 := Lib.hid hs1; clear hb hs1
  go_wp2_with fail
  refine hK.out _ _ ?_ (fun hHeld => ?_)
  · (try dsimp only); first | assumption | exact Below.alloc hHeld hHeld.size _ | exact (Below.refl _ _).drew | exact Below.drew (Below.refl _ _) | exact Below_drewN _ _ _ | exact Below.refl _ _ | (trace_state; fail)
  clear hK K
  try simp only [Act.put, List.setIfInBounds_toArray, List.set_cons_zero, List.set_cons_succ]
  refine wpAnyH_ready (rs := [24]) (by kernel_rfl) (by simp) ?_
  refine AllReadyH.cons (o := { dst := some 35, op := Op.call { callee := Callee.value (Operand.func 13), args := #[Operand.tmp 33, Operand.tmp 34], argTypes := #[27, 3] }, type := 37, pos := _, after := #[{ on := 22, ground := Ground.data }, { on := 23, ground := Ground.data }, { on := 21, ground := Ground.chain }, { on := 18, ground := Ground.guard }], guard := some (18, false) }) rfl (fun K hK => ?_) AllReadyH.nil
  go_simp
  refine (HSb.out _ (HB2.out.trans (hHeld.mono HB2.out.size))).mono ?_; rintro e v6 ⟨y1, y2, y3, y4, rfl, hs2, hb⟩; have hHeld := hHeld.trans (hb.mono hHeld.size); have Hs1 := Lib.hid (Hs1.out.below hb); have Hs2 := Lib.hid hs2; clear hb hs2
  go_wp2_with fail
  refine hK.out _ _ ?_ (fun hHeld => ?_)
  · (try dsimp only); first | assumption | exact Below.alloc hHeld hHeld.size _ | exact (Below.refl _ _).drew | exact Below.drew (Below.refl _ _) | exact Below_drewN _ _ _ | exact Below.refl _ _ | (trace_state; fail)
  clear hK K
  try simp only [Act.put, List.setIfInBounds_toArray, List.set_cons_zero, List.set_cons_succ]
  refine wpAnyH_ready (rs := [25]) (by kernel_rfl) (by simp) ?_
  refine AllReadyH.cons (o := { dst := some 36, op := Op.call { callee := Callee.value (Operand.func 11), args := #[Operand.tmp 32, Operand.tmp 35], argTypes := #[37, 37] }, type := 4, pos := _, after := #[{ on := 21, ground := Ground.data }, { on := 24, ground := Ground.data }, { on := 24, ground := Ground.chain }, { on := 18, ground := Ground.guard }], guard := some (18, false) }) rfl (fun K hK => ?_) AllReadyH.nil
  go_simp
  refine (ref17_SameScope _ _ _ _ _ _ _ _ p u _ Hs1.out Hs2.out).mono ?_; rintro e v7 ⟨rfl, hb⟩; have hHeld := hHeld.trans (hb.mono hHeld.size); clear hb
  go_wp2_with fail
  refine hK.out _ _ ?_ (fun hHeld => ?_)
  · (try dsimp only); first | assumption | exact Below.alloc hHeld hHeld.size _ | exact (Below.refl _ _).drew | exact Below.drew (Below.refl _ _) | exact Below_drewN _ _ _ | exact Below.refl _ _ | (trace_state; fail)
  clear hK K
  try simp only [Act.put, List.setIfInBounds_toArray, List.set_cons_zero, List.set_cons_succ]
  refine wpAnyH_take (i := 26) (oi := { dst := some 37, op := Op.unOp UnOp.not 4 (Operand.tmp 36), type := 4, pos := _, after := #[{ on := 25, ground := Ground.data }, { on := 18, ground := Ground.guard }], guard := some (18, false) }) (v := ?_) rfl (by kernel_rfl) (by kernel_rfl) (by kernel_rfl) (fun _ _ _ h => h) (Or.inl ⟨by rfl, ?_⟩) (by assumption) ?_
  rotate_left
  · intro wt hSw; (try dsimp only at hSw); have c0 := cellB hSw c0 zp; have c1 := cellB hSw c1 zp; have c2 := cellB hSw c2 zp; have c3 := cellB hSw c3 zp; first | (go_simp; done) | (go_simp; with_reducible rfl) | (trace_state; fail)
  try simp only [Act.put, List.setIfInBounds_toArray, List.set_cons_zero, List.set_cons_succ]
  refine wpAnyH_take (i := 27) (oi := { dst := some 38, op := Op.pick (Operand.tmp 29) (Operand.const (Value.bool true)) (Operand.tmp 37), type := 4, pos := _, after := #[{ on := 18, ground := Ground.data }, { on := 26, ground := Ground.data }], guard := none }) (v := ?_) rfl (by kernel_rfl) (by kernel_rfl) (by kernel_rfl) (fun _ _ _ h => h) (Or.inl ⟨by rfl, ?_⟩) (by assumption) ?_
  rotate_left
  · intro wt hSw; (try dsimp only at hSw); have c0 := cellB hSw c0 zp; have c1 := cellB hSw c1 zp; have c2 := cellB hSw c2 zp; have c3 := cellB hSw c3 zp; first | (go_simp; done) | (go_simp; with_reducible rfl) | (trace_state; fail)
  try simp only [Act.put, List.setIfInBounds_toArray, List.set_cons_zero, List.set_cons_succ]
  refine wpAnyH_done (by kernel_rfl) ?_ _
  have HBx := Lib.hid hHeld
  clear hHeld Hs1 Hs2 HTa HTb HCa HCb HSa HSb
  obtain ⟨us, hus⟩ : ∃ us, p.units = us := ⟨_, rfl⟩
  have HU := Lib.hid (show RowR 5 unitR w (.slice sd us.length cd) us by rw [← hus]; exact HP.out.us)
  rw [hus] at HFU f4 hul HJ2
  obtain ⟨n, hn⟩ : ∃ n, us.length = n := ⟨_, rfl⟩
  have HN := Lib.hid hn
  rw [hn] at HU f4 hul HJ2
  rw [hus, hn]
  clear hus hn c0 c1 c2 c3
  go_wp2_with fail
  go_loopw [5] (fun jj wr => ∃ (k : Nat), k ≤ n ∧ jj = .int .i64 k ∧ Hid (Below W2.heap.size W2 wr)) (fun jj _ => n - (intOf jj).toNat)
  case atStart => exact ⟨0, by omega, rfl, HBx⟩
  case round =>
    clear HBx
    obtain ⟨k, hk, rfl, HBr⟩ := hrel
    have hjr := obj_below HJ2.out HBr.out zp
    have c3 := obj_cell hjr (i := 3) rfl
    have HBw := Lib.hid (HB2.out.trans (HBr.out.mono HB2.out.size))
    clear hjr
    by_cases hlt : k < n
    · have qk : ((k : Int) < (n : Int)) = True := eq_true (by omega)
      obtain ⟨x, hx⟩ := get_some (L := us) (n := k) (by rw [HN.out]; exact hlt)
      obtain ⟨b, off, rfl, hbw, hc⟩ := unit_at HU.out (k := k) (by rw [HN.out]; exact hlt)
      obtain ⟨u1, u3, u4, d0, d1, d2, d3, d4, hUx⟩ := hc k x hx
      have d0 := (HBw.out.cell (p := ⟨b, off + k * 5, none⟩) hbw).trans d0
      have d1 := (HBw.out.cell (p := ⟨b, off + k * 5 + 1, none⟩) hbw).trans d1
      have d2 := (HBw.out.cell (p := ⟨b, off + k * 5 + 2, none⟩) hbw).trans d2
      have d3 := (HBw.out.cell (p := ⟨b, off + k * 5 + 3, none⟩) hbw).trans d3
      have d4 := (HBw.out.cell (p := ⟨b, off + k * 5 + 4, none⟩) hbw).trans d4
      have hfx' : x.name.length ≤ 300 ∧ x.params.length ≤ 20 ∧ x.locals.length ≤ 1100 ∧ x.code.length ≤ 300 := of_decide_eq_true (HFU.out x (List.mem_of_getElem? hx))
      obtain ⟨a1, b1, rfl⟩ := row_get hUx.ps
      obtain ⟨a3, b3, rfl⟩ := row_get hUx.ls
      obtain ⟨a4, b4, rfl⟩ := row_get hUx.cs
      obtain ⟨mm, hmm⟩ : ∃ m, ((k : Int) == u) = m := ⟨_, rfl⟩
      obtain ⟨Wu, hWu⟩ : ∃ Wu, Wu = wr.alloc (.cells #[.string ⟨x.name.toArray⟩, .slice a1 x.params.length b1, .int .i64 x.result, .slice a3 x.locals.length b3, .slice a4 x.code.length b4] 41) := ⟨_, rfl⟩
      have hb1 : Below wr.heap.size wr Wu := by rw [hWu]; exact by (repeat' (first | (with_reducible exact Below.refl _ _) | (with_reducible assumption) | (with_reducible refine below_drewN ?_ _) | (with_reducible refine Below.alloc ?_ ?_ _) | (with_reducible refine Below.drew ?_) | (with_reducible refine Below.setCell ?_ ?_ _) | go_size))
      have hj1 : Wu.heap[wr.heap.size]? = some (.cells #[.string ⟨x.name.toArray⟩, .slice a1 x.params.length b1, .int .i64 x.result, .slice a3 x.locals.length b3, .slice a4 x.code.length b4] 41) := by rw [hWu]; exact get_last rfl
      have e1 := obj_cell hj1 (i := 1) rfl
      have e2 := obj_cell hj1 (i := 2) rfl
      have e3 := obj_cell hj1 (i := 3) rfl
      have zu := heap_lt hj1
      have hBu : Below w.heap.size w Wu := HBw.out.trans (hb1.mono HBw.out.size)
      have HHa := Lib.hid (fun W (h : Below Wu.heap.size Wu W) => decl_Head (.slice a1 x.params.length b1) (.slice a3 x.locals.length b3) x.params x.locals x.result mm W (hUx.ps.below intR_stable (hBu.trans (h.mono hBu.size))) (hUx.ls.below intR_stable (hBu.trans (h.mono hBu.size))) hUx.r64 hfx'.2.1 hfx'.2.2.1)
      have HHb := Lib.hid (fun W (h : Below Wu.heap.size Wu W) => ref17_Head (.slice a1 x.params.length b1) (.slice a3 x.locals.length b3) x.params x.locals x.result mm W (hUx.ps.below intR_stable (hBu.trans (h.mono hBu.size))) (hUx.ls.below intR_stable (hBu.trans (h.mono hBu.size))) hfx'.2.1 hfx'.2.2.1)
      have HBu := Lib.hid (HBr.out.trans (hb1.mono HBr.out.size))
      have HWu := Lib.hid hWu
      clear hc hx hUx hWu hb1 hj1 hBu
      go_upto_region 9 with fail
      rw [← HWu.out]
      refine wp_region_held_drew (S := (fun w' => Below Wu.heap.size Wu w')) (by kernel_rfl) ?_ (fun hHeld => ?_)
      · (try dsimp only); first | assumption | exact Below.alloc hHeld hHeld.size _ | exact (Below.refl _ _).drew | exact Below.drew (Below.refl _ _) | exact Below_drewN _ _ _ | exact Below.refl _ _ | (trace_state; fail)
      refine wpAnyH_take (i := 0) (oi := { dst := some 51, op := Op.fieldAddr 41 (Operand.tmp 6) 1, type := 0, pos := _, after := #[], guard := none }) (v := ?_) rfl (by kernel_rfl) (by kernel_rfl) (by kernel_rfl) (fun _ _ _ h => h) (Or.inl ⟨by rfl, ?_⟩) (by assumption) ?_
      rotate_left
      · intro wt hSw; (try dsimp only at hSw); have e1 := cellB hSw e1 zu; have e2 := cellB hSw e2 zu; have e3 := cellB hSw e3 zu; first | (go_simp; done) | (go_simp; with_reducible rfl) | (trace_state; fail)
      try simp only [Act.put, List.setIfInBounds_toArray, List.set_cons_zero, List.set_cons_succ]
      refine wpAnyH_take (i := 1) (oi := { dst := some 52, op := Op.load 35 (Operand.tmp 51), type := 35, pos := _, after := #[{ on := 0, ground := Ground.data }], guard := none }) (v := ?_) rfl (by kernel_rfl) (by kernel_rfl) (by kernel_rfl) (fun _ _ _ h => h) (Or.inl ⟨by rfl, ?_⟩) (by assumption) ?_
      rotate_left
      · intro wt hSw; (try dsimp only at hSw); have e1 := cellB hSw e1 zu; have e2 := cellB hSw e2 zu; have e3 := cellB hSw e3 zu; first | (go_simp; done) | (go_simp; with_reducible rfl) | (trace_state; fail)
      try simp only [Act.put, List.setIfInBounds_toArray, List.set_cons_zero, List.set_cons_succ]
      refine wpAnyH_take (i := 2) (oi := { dst := some 53, op := Op.fieldAddr 41 (Operand.tmp 6) 2, type := 0, pos := _, after := #[], guard := none }) (v := ?_) rfl (by kernel_rfl) (by kernel_rfl) (by kernel_rfl) (fun _ _ _ h => h) (Or.inl ⟨by rfl, ?_⟩) (by assumption) ?_
      rotate_left
      · intro wt hSw; (try dsimp only at hSw); have e1 := cellB hSw e1 zu; have e2 := cellB hSw e2 zu; have e3 := cellB hSw e3 zu; first | (go_simp; done) | (go_simp; with_reducible rfl) | (trace_state; fail)
      try simp only [Act.put, List.setIfInBounds_toArray, List.set_cons_zero, List.set_cons_succ]
      refine wpAnyH_take (i := 3) (oi := { dst := some 54, op := Op.load 3 (Operand.tmp 53), type := 3, pos := _, after := #[{ on := 2, ground := Ground.data }], guard := none }) (v := ?_) rfl (by kernel_rfl) (by kernel_rfl) (by kernel_rfl) (fun _ _ _ h => h) (Or.inl ⟨by rfl, ?_⟩) (by assumption) ?_
      rotate_left
      · intro wt hSw; (try dsimp only at hSw); have e1 := cellB hSw e1 zu; have e2 := cellB hSw e2 zu; have e3 := cellB hSw e3 zu; first | (go_simp; done) | (go_simp; with_reducible rfl) | (trace_state; fail)
      try simp only [Act.put, List.setIfInBounds_toArray, List.set_cons_zero, List.set_cons_succ]
      refine wpAnyH_take (i := 4) (oi := { dst := some 55, op := Op.fieldAddr 41 (Operand.tmp 6) 3, type := 0, pos := _, after := #[], guard := none }) (v := ?_) rfl (by kernel_rfl) (by kernel_rfl) (by kernel_rfl) (fun _ _ _ h => h) (Or.inl ⟨by rfl, ?_⟩) (by assumption) ?_
      rotate_left
      · intro wt hSw; (try dsimp only at hSw); have e1 := cellB hSw e1 zu; have e2 := cellB hSw e2 zu; have e3 := cellB hSw e3 zu; first | (go_simp; done) | (go_simp; with_reducible rfl) | (trace_state; fail)
      try simp only [Act.put, List.setIfInBounds_toArray, List.set_cons_zero, List.set_cons_succ]
      refine wpAnyH_take (i := 5) (oi := { dst := some 56, op := Op.load 35 (Operand.tmp 55), type := 35, pos := _, after := #[{ on := 4, ground := Ground.data }], guard := none }) (v := ?_) rfl (by kernel_rfl) (by kernel_rfl) (by kernel_rfl) (fun _ _ _ h => h) (Or.inl ⟨by rfl, ?_⟩) (by assumption) ?_
      rotate_left
      · intro wt hSw; (try dsimp only at hSw); have e1 := cellB hSw e1 zu; have e2 := cellB hSw e2 zu; have e3 := cellB hSw e3 zu; first | (go_simp; done) | (go_simp; with_reducible rfl) | (trace_state; fail)
      try simp only [Act.put, List.setIfInBounds_toArray, List.set_cons_zero, List.set_cons_succ]
      refine wpAnyH_take (i := 6) (oi := { dst := some 57, op := Op.move (Operand.tmp 5), type := 3, pos := _, after := #[], guard := none }) (v := ?_) rfl (by kernel_rfl) (by kernel_rfl) (by kernel_rfl) (fun _ _ _ h => h) (Or.inl ⟨by rfl, ?_⟩) (by assumption) ?_
      rotate_left
      · intro wt hSw; (try dsimp only at hSw); have e1 := cellB hSw e1 zu; have e2 := cellB hSw e2 zu; have e3 := cellB hSw e3 zu; first | (go_simp; done) | (go_simp; with_reducible rfl) | (trace_state; fail)
      try simp only [Act.put, List.setIfInBounds_toArray, List.set_cons_zero, List.set_cons_succ]
      refine wpAnyH_take (i := 7) (oi := { dst := some 58, op := Op.move (Operand.tmp 1), type := 3, pos := _, after := #[], guard := none }) (v := ?_) rfl (by kernel_rfl) (by kernel_rfl) (by kernel_rfl) (fun _ _ _ h => h) (Or.inl ⟨by rfl, ?_⟩) (by assumption) ?_
      rotate_left
      · intro wt hSw; (try dsimp only at hSw); have e1 := cellB hSw e1 zu; have e2 := cellB hSw e2 zu; have e3 := cellB hSw e3 zu; first | (go_simp; done) | (go_simp; with_reducible rfl) | (trace_state; fail)
      try simp only [Act.put, List.setIfInBounds_toArray, List.set_cons_zero, List.set_cons_succ]
      refine wpAnyH_take (i := 8) (oi := { dst := some 59, op := Op.binOp BinOp.eql 3 (Operand.tmp 57) (Operand.tmp 58) 3, type := 4, pos := _, after := #[{ on := 6, ground := Ground.data }, { on := 7, ground := Ground.data }], guard := none }) (v := ?_) rfl (by kernel_rfl) (by kernel_rfl) (by kernel_rfl) (fun _ _ _ h => h) (Or.inl ⟨by rfl, ?_⟩) (by assumption) ?_
      rotate_left
      · intro wt hSw; (try dsimp only at hSw); have e1 := cellB hSw e1 zu; have e2 := cellB hSw e2 zu; have e3 := cellB hSw e3 zu; first | (go_simp; done) | (go_simp; with_reducible rfl) | (trace_state; fail)
      try simp only [Act.put, List.setIfInBounds_toArray, List.set_cons_zero, List.set_cons_succ]
      refine wpAnyH_take (i := 10) (oi := { dst := some 61, op := Op.fieldAddr 41 (Operand.tmp 6) 1, type := 0, pos := _, after := #[], guard := none }) (v := ?_) rfl (by kernel_rfl) (by kernel_rfl) (by kernel_rfl) (fun _ _ _ h => h) (Or.inl ⟨by rfl, ?_⟩) (by assumption) ?_
      rotate_left
      · intro wt hSw; (try dsimp only at hSw); have e1 := cellB hSw e1 zu; have e2 := cellB hSw e2 zu; have e3 := cellB hSw e3 zu; first | (go_simp; done) | (go_simp; with_reducible rfl) | (trace_state; fail)
      try simp only [Act.put, List.setIfInBounds_toArray, List.set_cons_zero, List.set_cons_succ]
      refine wpAnyH_take (i := 11) (oi := { dst := some 62, op := Op.load 35 (Operand.tmp 61), type := 35, pos := _, after := #[{ on := 10, ground := Ground.data }], guard := none }) (v := ?_) rfl (by kernel_rfl) (by kernel_rfl) (by kernel_rfl) (fun _ _ _ h => h) (Or.inl ⟨by rfl, ?_⟩) (by assumption) ?_
      rotate_left
      · intro wt hSw; (try dsimp only at hSw); have e1 := cellB hSw e1 zu; have e2 := cellB hSw e2 zu; have e3 := cellB hSw e3 zu; first | (go_simp; done) | (go_simp; with_reducible rfl) | (trace_state; fail)
      try simp only [Act.put, List.setIfInBounds_toArray, List.set_cons_zero, List.set_cons_succ]
      refine wpAnyH_take (i := 12) (oi := { dst := some 63, op := Op.fieldAddr 41 (Operand.tmp 6) 2, type := 0, pos := _, after := #[], guard := none }) (v := ?_) rfl (by kernel_rfl) (by kernel_rfl) (by kernel_rfl) (fun _ _ _ h => h) (Or.inl ⟨by rfl, ?_⟩) (by assumption) ?_
      rotate_left
      · intro wt hSw; (try dsimp only at hSw); have e1 := cellB hSw e1 zu; have e2 := cellB hSw e2 zu; have e3 := cellB hSw e3 zu; first | (go_simp; done) | (go_simp; with_reducible rfl) | (trace_state; fail)
      try simp only [Act.put, List.setIfInBounds_toArray, List.set_cons_zero, List.set_cons_succ]
      refine wpAnyH_take (i := 13) (oi := { dst := some 64, op := Op.load 3 (Operand.tmp 63), type := 3, pos := _, after := #[{ on := 12, ground := Ground.data }], guard := none }) (v := ?_) rfl (by kernel_rfl) (by kernel_rfl) (by kernel_rfl) (fun _ _ _ h => h) (Or.inl ⟨by rfl, ?_⟩) (by assumption) ?_
      rotate_left
      · intro wt hSw; (try dsimp only at hSw); have e1 := cellB hSw e1 zu; have e2 := cellB hSw e2 zu; have e3 := cellB hSw e3 zu; first | (go_simp; done) | (go_simp; with_reducible rfl) | (trace_state; fail)
      try simp only [Act.put, List.setIfInBounds_toArray, List.set_cons_zero, List.set_cons_succ]
      refine wpAnyH_take (i := 14) (oi := { dst := some 65, op := Op.fieldAddr 41 (Operand.tmp 6) 3, type := 0, pos := _, after := #[], guard := none }) (v := ?_) rfl (by kernel_rfl) (by kernel_rfl) (by kernel_rfl) (fun _ _ _ h => h) (Or.inl ⟨by rfl, ?_⟩) (by assumption) ?_
      rotate_left
      · intro wt hSw; (try dsimp only at hSw); have e1 := cellB hSw e1 zu; have e2 := cellB hSw e2 zu; have e3 := cellB hSw e3 zu; first | (go_simp; done) | (go_simp; with_reducible rfl) | (trace_state; fail)
      try simp only [Act.put, List.setIfInBounds_toArray, List.set_cons_zero, List.set_cons_succ]
      refine wpAnyH_take (i := 15) (oi := { dst := some 66, op := Op.load 35 (Operand.tmp 65), type := 35, pos := _, after := #[{ on := 14, ground := Ground.data }], guard := none }) (v := ?_) rfl (by kernel_rfl) (by kernel_rfl) (by kernel_rfl) (fun _ _ _ h => h) (Or.inl ⟨by rfl, ?_⟩) (by assumption) ?_
      rotate_left
      · intro wt hSw; (try dsimp only at hSw); have e1 := cellB hSw e1 zu; have e2 := cellB hSw e2 zu; have e3 := cellB hSw e3 zu; first | (go_simp; done) | (go_simp; with_reducible rfl) | (trace_state; fail)
      try simp only [Act.put, List.setIfInBounds_toArray, List.set_cons_zero, List.set_cons_succ]
      refine wpAnyH_take (i := 16) (oi := { dst := some 67, op := Op.move (Operand.tmp 5), type := 3, pos := _, after := #[], guard := none }) (v := ?_) rfl (by kernel_rfl) (by kernel_rfl) (by kernel_rfl) (fun _ _ _ h => h) (Or.inl ⟨by rfl, ?_⟩) (by assumption) ?_
      rotate_left
      · intro wt hSw; (try dsimp only at hSw); have e1 := cellB hSw e1 zu; have e2 := cellB hSw e2 zu; have e3 := cellB hSw e3 zu; first | (go_simp; done) | (go_simp; with_reducible rfl) | (trace_state; fail)
      try simp only [Act.put, List.setIfInBounds_toArray, List.set_cons_zero, List.set_cons_succ]
      refine wpAnyH_take (i := 17) (oi := { dst := some 68, op := Op.move (Operand.tmp 1), type := 3, pos := _, after := #[], guard := none }) (v := ?_) rfl (by kernel_rfl) (by kernel_rfl) (by kernel_rfl) (fun _ _ _ h => h) (Or.inl ⟨by rfl, ?_⟩) (by assumption) ?_
      rotate_left
      · intro wt hSw; (try dsimp only at hSw); have e1 := cellB hSw e1 zu; have e2 := cellB hSw e2 zu; have e3 := cellB hSw e3 zu; first | (go_simp; done) | (go_simp; with_reducible rfl) | (trace_state; fail)
      try simp only [Act.put, List.setIfInBounds_toArray, List.set_cons_zero, List.set_cons_succ]
      refine wpAnyH_take (i := 18) (oi := { dst := some 69, op := Op.binOp BinOp.eql 3 (Operand.tmp 67) (Operand.tmp 68) 3, type := 4, pos := _, after := #[{ on := 16, ground := Ground.data }, { on := 17, ground := Ground.data }], guard := none }) (v := ?_) rfl (by kernel_rfl) (by kernel_rfl) (by kernel_rfl) (fun _ _ _ h => h) (Or.inl ⟨by rfl, ?_⟩) (by assumption) ?_
      rotate_left
      · intro wt hSw; (try dsimp only at hSw); have e1 := cellB hSw e1 zu; have e2 := cellB hSw e2 zu; have e3 := cellB hSw e3 zu; first | (go_simp; done) | (go_simp; with_reducible rfl) | (trace_state; fail)
      try simp only [Act.put, List.setIfInBounds_toArray, List.set_cons_zero, List.set_cons_succ]
      refine wpAnyH_ready (rs := [9]) (by kernel_rfl) (by simp) ?_
      refine AllReadyH.cons (o := { dst := some 60, op := Op.call { callee := Callee.value (Operand.func 14), args := #[Operand.tmp 52, Operand.tmp 54, Operand.tmp 56, Operand.tmp 59], argTypes := #[35, 3, 35, 4] }, type := 30, pos := _, after := #[{ on := 1, ground := Ground.data }, { on := 3, ground := Ground.data }, { on := 5, ground := Ground.data }, { on := 8, ground := Ground.data }], guard := none }) rfl (fun K hK => ?_) AllReadyH.nil
      go_simp
      refine (HHa.out _ hHeld).mono ?_; rintro e v1 ⟨rfl, hb⟩; have hHeld := hHeld.trans (hb.mono hHeld.size); clear hb
      go_wp2_with fail
      refine hK.out _ _ ?_ (fun hHeld => ?_)
      · (try dsimp only); first | assumption | exact Below.alloc hHeld hHeld.size _ | exact (Below.refl _ _).drew | exact Below.drew (Below.refl _ _) | exact Below_drewN _ _ _ | exact Below.refl _ _ | (trace_state; fail)
      clear hK K
      try simp only [Act.put, List.setIfInBounds_toArray, List.set_cons_zero, List.set_cons_succ]
      refine wpAnyH_ready (rs := [19]) (by kernel_rfl) (by simp) ?_
      refine AllReadyH.cons (o := { dst := some 70, op := Op.call { callee := Callee.value (Operand.func 15), args := #[Operand.tmp 62, Operand.tmp 64, Operand.tmp 66, Operand.tmp 69], argTypes := #[35, 3, 35, 4] }, type := 30, pos := _, after := #[{ on := 11, ground := Ground.data }, { on := 13, ground := Ground.data }, { on := 15, ground := Ground.data }, { on := 18, ground := Ground.data }, { on := 9, ground := Ground.chain }], guard := none }) rfl (fun K hK => ?_) AllReadyH.nil
      go_simp
      refine (HHb.out _ hHeld).mono ?_; rintro e v2 ⟨rfl, rfl⟩
      go_wp2_with fail
      refine hK.out _ _ ?_ (fun hHeld => ?_)
      · (try dsimp only); first | assumption | exact Below.alloc hHeld hHeld.size _ | exact (Below.refl _ _).drew | exact Below.drew (Below.refl _ _) | exact Below_drewN _ _ _ | exact Below.refl _ _ | (trace_state; fail)
      clear hK K
      try simp only [Act.put, List.setIfInBounds_toArray, List.set_cons_zero, List.set_cons_succ]
      refine wpAnyH_take (i := 20) (oi := { dst := some 71, op := Op.binOp BinOp.neq 30 (Operand.tmp 60) (Operand.tmp 70) 30, type := 4, pos := _, after := #[{ on := 9, ground := Ground.data }, { on := 19, ground := Ground.data }], guard := none }) (v := ?_) rfl (by kernel_rfl) (by kernel_rfl) (by kernel_rfl) (fun _ _ _ h => h) (Or.inl ⟨by rfl, ?_⟩) (by assumption) ?_
      rotate_left
      · intro wt hSw; (try dsimp only at hSw); have e1 := cellB hSw e1 zu; have e2 := cellB hSw e2 zu; have e3 := cellB hSw e3 zu; first | (go_simp; done) | (go_simp; with_reducible rfl) | (trace_state; fail)
      try simp only [Act.put, List.setIfInBounds_toArray, List.set_cons_zero, List.set_cons_succ]
      refine wpAnyH_done (by kernel_rfl) ?_ _
      have HBn := Lib.hid (HBu.out.trans (hHeld.mono HBu.out.size))
      clear hHeld
      go_wp2_with fail
      go_roundw
      case rel => exact ⟨k + 1, by omega, by simp, HBn⟩
      case measure => first | (simp [intOf]; done) | (simp [intOf]; omega)
    · obtain rfl : k = n := by omega
      have qk : ((k : Int) < (k : Int)) = False := eq_false (by omega)
      go_wp2_with fail
      refine (hAw _).mono ?_; rintro e w9 ⟨rfl, hb9⟩
      go_wp2_with fail
      go_ret
      exact ⟨rfl, HBw.out.trans (hb9.mono HBw.out.size)⟩
end Go.Proofs.Ytogmbfhefblbjaa
