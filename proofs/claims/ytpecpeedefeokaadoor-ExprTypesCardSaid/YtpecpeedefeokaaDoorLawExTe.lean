/- Layer 26: the walk of ExprTells. -/
import Derived.Test.YtpecpeedefeokaaDoorExAw
import Derived.Test.YtpecpeedefeokaaDoorExS
namespace Go.Proofs.YtpecpeedefeokaaDoor
open Go.RowKit
set_option linter.unusedSimpArgs false
set_option linter.unusedVariables false
theorem boxed_expr {w : World} {o1 o2 o3 o4 : Int} {s : Value} {g : Nat} {t : TypeId} (h : w.heap[g]? = some (.cells #[.int .i64 o1, .int .i64 o2, .int .i64 o3, .int .i64 o4, s] t)) :
    w.cell? ⟨g, 0, none⟩ = some (.int .i64 o1) ∧ w.cell? ⟨g, 1, none⟩ = some (.int .i64 o2) ∧ w.cell? ⟨g, 2, none⟩ = some (.int .i64 o3) ∧ w.cell? ⟨g, 3, none⟩ = some (.int .i64 o4) ∧ w.cell? ⟨g, 4, none⟩ = some s :=
  ⟨obj_cell h (i := 0) rfl, obj_cell h (i := 1) rfl, obj_cell h (i := 2) rfl, obj_cell h (i := 3) rfl, obj_cell h (i := 4) rfl⟩
set_option maxHeartbeats 4000000 in
theorem exprTells_walk (v u : Value) (a b : Ex) (w : World) (hv : ExV w v a) (hu : ExV w u b) (hg : AGoes w) (hT : BTab w) : Calls Tryd.prog 4 #[v, u] w fun r w' => r = .returned (.bool true) ∧ Below w.heap.size w w' := by
  have HA0 := Lib.hid (fun W (h : Below w.heap.size w W) => law26_awake W (hg.below h) (hT.below h))
  have HF1 := Lib.hid (fun W (h : Below w.heap.size w W) => ref26_Few a 300 (by omega) W v (hv.below h))
  have HF2 := Lib.hid (fun W (h : Below w.heap.size w W) => ref26_Few b 300 (by omega) W u (hu.below h))
  have HSa := Lib.hid (fun (h : 0 ≤ roomE a (300 : Nat) 40) => fewE_small h)
  have HSb := Lib.hid (fun (h : 0 ≤ roomE b (300 : Nat) 40) => fewE_small h)
  have HX := Lib.hid hv
  have HY := Lib.hid hu
  obtain ⟨s, rfl, _, hra⟩ := id hv
  obtain ⟨s', rfl, _, hrb⟩ := id hu
  obtain ⟨sa, sc, rfl⟩ := row_get hra
  obtain ⟨sb, sd, rfl⟩ := row_get hrb
  clear hv hu hg hT hra hrb
  have HB1 := Lib.hid (fun W (h : Below w.heap.size w W) (hs : SmallE 300 a) => expr_Size a hs W _ (HX.out.below h))
  have HB2 := Lib.hid (fun W (h : Below w.heap.size w W) (hs : SmallE 300 a) => ref26_Size a hs W _ (HX.out.below h))
  have HB3 := Lib.hid (fun W (h : Below w.heap.size w W) (hs : SmallE 300 a) => expr_Deep a hs W _ (HX.out.below h))
  have HB4 := Lib.hid (fun W (h : Below w.heap.size w W) (hs : SmallE 300 a) => ref26_Deep a hs W _ (HX.out.below h))
  have HB5 := Lib.hid (fun W (h : Below w.heap.size w W) (hs : SmallE 300 a) => expr_May a hs W _ (HX.out.below h))
  have HB6 := Lib.hid (fun W (h : Below w.heap.size w W) (hs : SmallE 300 a) => ref26_May a hs W _ (HX.out.below h))
  have HB7 := Lib.hid (fun W (h : Below w.heap.size w W) => expr_Same a b W _ _ (HX.out.below h) (HY.out.below h))
  have HB8 := Lib.hid (fun W (h : Below w.heap.size w W) => ref26_Same a b W _ _ (HX.out.below h) (HY.out.below h))
  have HB9 := Lib.hid (fun W (h : Below w.heap.size w W) => expr_Same a a W _ _ (HX.out.below h) (HX.out.below h))
  rw [sameE_yes (show a = a from rfl)] at HB9
  generalize a.l.length = na at *
  generalize b.l.length = nb at *
  generalize hS1 : sizeE a = S1 at *
  generalize hS2 : deepE a = S2 at *
  generalize hS3 : mayE a = S3 at *
  generalize hS4 : sameE a b = S4 at *
  generalize a.op = p1 at *
  generalize a.t = p2 at *
  generalize a.n = p3 at *
  generalize a.m = p4 at *
  generalize b.op = q1 at *
  generalize b.t = q2 at *
  generalize b.n = q3 at *
  generalize b.m = q4 at *
  obtain ⟨WB, hWB⟩ : ∃ WB, WB = (w.alloc (.cells #[.int .i64 p1, .int .i64 p2, .int .i64 p3, .int .i64 p4, .slice sa na sc] 30)).alloc (.cells #[.int .i64 q1, .int .i64 q2, .int .i64 q3, .int .i64 q4, .slice sb nb sd] 30) := ⟨_, rfl⟩
  have oA : WB.heap[w.heap.size]? = some (.cells #[.int .i64 p1, .int .i64 p2, .int .i64 p3, .int .i64 p4, .slice sa na sc] 30) := by rw [hWB]; exact (get_past (by simp)).trans (get_last rfl)
  have oB : WB.heap[w.heap.size + 1]? = some (.cells #[.int .i64 q1, .int .i64 q2, .int .i64 q3, .int .i64 q4, .slice sb nb sd] 30) := by rw [hWB]; exact get_last (by simp)
  have hbW : Below w.heap.size w WB := by rw [hWB]; exact by (repeat' (first | (with_reducible exact Below.refl _ _) | (with_reducible assumption) | (with_reducible refine below_drewN ?_ _) | (with_reducible refine Below.alloc ?_ ?_ _) | (with_reducible refine Below.drew ?_) | (with_reducible refine Below.setCell ?_ ?_ _) | go_size))
  have HWB := Lib.hid hWB
  have HBW := Lib.hid hbW
  have za := heap_lt oA
  have zb := heap_lt oB
  clear hWB hbW
  obtain ⟨a0, a1, a2, a3, a4⟩ := boxed_expr oA
  obtain ⟨b0, b1, b2, b3, b4⟩ := boxed_expr oB
  have HOA := Lib.hid oA
  have HOB := Lib.hid oB
  clear oA oB
  cases hfa : decide (0 ≤ roomE a (300 : Nat) 40)
  · rw [hfa] at HF1
    clear a0 a1 a2 a3 a4 b0 b1 b2 b3 b4 za zb HB1 HB2 HB3 HB4 HB5 HB6 HB7 HB8 HB9 hfa
    have HFx := Lib.hid (HF1.out WB HBW.out)
    go_enter Tryd.func4, Tryd.ntmps4
    go_wp2_with fail
    rw [← HWB.out]
    refine HFx.out.mono ?_; rintro r w2 ⟨rfl, hb⟩
    have HBB := Lib.hid (HBW.out.trans (hb.mono HBW.out.size))
    clear hb
    go_wp2_with fail
    refine (HA0.out _ HBB.out).mono ?_; rintro r w3 ⟨rfl, hb⟩
    have HBB := Lib.hid (HBB.out.trans (hb.mono HBB.out.size))
    clear hb
    go_wp2_with fail
    go_ret
    exact ⟨rfl, HBB.out⟩
  have hsa := HSa.out (of_decide_eq_true hfa)
  rw [hfa] at HF1
  have HFx := Lib.hid (HF1.out WB HBW.out)
  clear hfa
  cases hfb : decide (0 ≤ roomE b (300 : Nat) 40)
  · rw [hfb] at HF2
    clear HB1 HB2 HB3 HB4 HB5 HB6 HB7 HB8 HB9 hfb hsa HSa HSb HF1 a0 a1 a2 a3 a4 b0 b1 b2 b3 b4
    go_enter Tryd.func4, Tryd.ntmps4
    go_wp2_with fail
    rw [← HWB.out]
    refine HFx.out.mono ?_; rintro r w2 ⟨rfl, hb⟩
    have HBB := Lib.hid (HBW.out.trans (hb.mono HBW.out.size))
    obtain ⟨b0, b1, b2, b3, b4⟩ := boxed_expr (obj_below HOB.out hb zb)
    clear hb
    go_wp2_with fail
    refine (HF2.out _ HBB.out).mono ?_; rintro r w3 ⟨rfl, hb⟩
    have HBB := Lib.hid (HBB.out.trans (hb.mono HBB.out.size))
    clear hb
    go_wp2_with fail
    refine (HA0.out _ HBB.out).mono ?_; rintro r w4 ⟨rfl, hb⟩
    have HBB := Lib.hid (HBB.out.trans (hb.mono HBB.out.size))
    clear hb
    go_wp2_with fail
    go_ret
    exact ⟨rfl, HBB.out⟩
  rw [hfb] at HF2
  clear hfb a0 a1 a2 a3 a4 b0 b1 b2 b3 b4
  go_enter Tryd.func4, Tryd.ntmps4
  go_wp2_with fail
  rw [← HWB.out]
  refine HFx.out.mono ?_; rintro r w2 ⟨rfl, hb⟩
  have HBB := Lib.hid (HBW.out.trans (hb.mono HBW.out.size))
  have oB := obj_below HOB.out hb zb
  have oA := obj_below HOA.out hb za
  obtain ⟨b0, b1, b2, b3, b4⟩ := boxed_expr oB
  have HOA := Lib.hid oA
  have HOB := Lib.hid oB
  have za := heap_lt oA
  have zb := heap_lt oB
  clear hb oA oB
  go_wp2_with fail
  refine (HF2.out _ HBB.out).mono ?_; rintro r WB ⟨rfl, hb⟩
  have HBB := Lib.hid (HBB.out.trans (hb.mono HBB.out.size))
  have oB := obj_below HOB.out hb zb
  have oA := obj_below HOA.out hb za
  clear b0 b1 b2 b3 b4
  obtain ⟨a0, a1, a2, a3, a4⟩ := boxed_expr oA
  obtain ⟨b0, b1, b2, b3, b4⟩ := boxed_expr oB
  have za := heap_lt oA
  have zb := heap_lt oB
  have HBe := Lib.hid (fun W (h : Below WB.heap.size WB W) => HBB.out.trans (h.mono HBB.out.size))
  have H1 := Lib.hid (fun W (h : Below WB.heap.size WB W) => HB1.out W (HBe.out W h) hsa)
  have H2 := Lib.hid (fun W (h : Below WB.heap.size WB W) => HB2.out W (HBe.out W h) hsa)
  have H3 := Lib.hid (fun W (h : Below WB.heap.size WB W) => HB3.out W (HBe.out W h) hsa)
  have H4 := Lib.hid (fun W (h : Below WB.heap.size WB W) => HB4.out W (HBe.out W h) hsa)
  have H5 := Lib.hid (fun W (h : Below WB.heap.size WB W) => HB5.out W (HBe.out W h) hsa)
  have H6 := Lib.hid (fun W (h : Below WB.heap.size WB W) => HB6.out W (HBe.out W h) hsa)
  have H7 := Lib.hid (fun W (h : Below WB.heap.size WB W) => HB7.out W (HBe.out W h))
  have H8 := Lib.hid (fun W (h : Below WB.heap.size WB W) => HB8.out W (HBe.out W h))
  have H9 := Lib.hid (fun W (h : Below WB.heap.size WB W) => HB9.out W (HBe.out W h))
  have HA := Lib.hid (fun W (h : Below WB.heap.size WB W) => HA0.out W (HBe.out W h))
  clear hb oA oB HOA HOB HB1 HB2 HB3 HB4 HB5 HB6 HB7 HB8 HB9 HWB HF1 HF2 HFx HSa HSb hsa
  have e1 : ((S1 : Int) == (S1 : Int)) = true := by simp
  have e2 : ((S2 : Int) == (S2 : Int)) = true := by simp
  have e3 : (S3 == S3) = true := by simp
  have e4 : (S4 == S4) = true := by simp
  go_upto_region 3 with fail
  refine wp_region_held_drew (S := (fun w' => Below WB.heap.size WB w')) (by kernel_rfl) ?_ (fun hHeld => ?_)
  · (try dsimp only); first | assumption | exact Below.alloc hHeld hHeld.size _ | exact (Below.refl _ _).drew | exact Below.drew (Below.refl _ _) | exact Below_drewN _ _ _ | exact Below.refl _ _ | (trace_state; fail)
  refine wpAnyH_take (i := 0) (oi := { dst := some 14, op := Op.load 30 (Operand.tmp 2), type := 30, pos := _, after := #[], guard := none }) (v := ?_) rfl (by kernel_rfl) (by kernel_rfl) (by kernel_rfl) (fun _ _ _ h => h) (Or.inl ⟨by rfl, ?_⟩) (by assumption) ?_
  rotate_left
  · intro wt hSw; (try dsimp only at hSw); have a0 := cellB hSw a0 za; have a1 := cellB hSw a1 za; have a2 := cellB hSw a2 za; have a3 := cellB hSw a3 za; have a4 := cellB hSw a4 za; have b0 := cellB hSw b0 zb; have b1 := cellB hSw b1 zb; have b2 := cellB hSw b2 zb; have b3 := cellB hSw b3 zb; have b4 := cellB hSw b4 zb; first | (go_simp; done) | (go_simp; with_reducible rfl) | (trace_state; fail)
  try simp only [Act.put, List.setIfInBounds_toArray, List.set_cons_zero, List.set_cons_succ]
  refine wpAnyH_take (i := 2) (oi := { dst := some 16, op := Op.load 30 (Operand.tmp 2), type := 30, pos := _, after := #[], guard := none }) (v := ?_) rfl (by kernel_rfl) (by kernel_rfl) (by kernel_rfl) (fun _ _ _ h => h) (Or.inl ⟨by rfl, ?_⟩) (by assumption) ?_
  rotate_left
  · intro wt hSw; (try dsimp only at hSw); have a0 := cellB hSw a0 za; have a1 := cellB hSw a1 za; have a2 := cellB hSw a2 za; have a3 := cellB hSw a3 za; have a4 := cellB hSw a4 za; have b0 := cellB hSw b0 zb; have b1 := cellB hSw b1 zb; have b2 := cellB hSw b2 zb; have b3 := cellB hSw b3 zb; have b4 := cellB hSw b4 zb; first | (go_simp; done) | (go_simp; with_reducible rfl) | (trace_state; fail)
  try simp only [Act.put, List.setIfInBounds_toArray, List.set_cons_zero, List.set_cons_succ]
  refine wpAnyH_ready (rs := [1]) (by kernel_rfl) (by simp) ?_
  refine AllReadyH.cons (o := { dst := some 15, op := Op.call { callee := Callee.value (Operand.func 12), args := #[Operand.tmp 14], argTypes := #[30] }, type := 3, pos := _, after := #[{ on := 0, ground := Ground.data }], guard := none }) rfl (fun K hK => ?_) AllReadyH.nil
  go_simp
  refine (H1.out _ hHeld).mono ?_; rintro r w2 ⟨rfl, hb⟩; have hHeld := hHeld.trans (hb.mono hHeld.size)
  go_wp2_with fail
  refine hK.out _ _ ?_ (fun hHeld => ?_)
  · (try dsimp only); first | assumption | exact Below.alloc hHeld hHeld.size _ | exact (Below.refl _ _).drew | exact Below.drew (Below.refl _ _) | exact Below_drewN _ _ _ | exact Below.refl _ _ | (trace_state; fail)
  clear hK K
  try simp only [Act.put, List.setIfInBounds_toArray, List.set_cons_zero, List.set_cons_succ]
  refine wpAnyH_ready (rs := [3]) (by kernel_rfl) (by simp) ?_
  refine AllReadyH.cons (o := { dst := some 17, op := Op.call { callee := Callee.value (Operand.func 13), args := #[Operand.tmp 16], argTypes := #[30] }, type := 3, pos := _, after := #[{ on := 2, ground := Ground.data }, { on := 1, ground := Ground.chain }], guard := none }) rfl (fun K hK => ?_) AllReadyH.nil
  go_simp
  refine (H2.out _ hHeld).mono ?_; rintro r w2 ⟨rfl, hb⟩; have hHeld := hHeld.trans (hb.mono hHeld.size)
  go_wp2_with fail
  refine hK.out _ _ ?_ (fun hHeld => ?_)
  · (try dsimp only); first | assumption | exact Below.alloc hHeld hHeld.size _ | exact (Below.refl _ _).drew | exact Below.drew (Below.refl _ _) | exact Below_drewN _ _ _ | exact Below.refl _ _ | (trace_state; fail)
  clear hK K
  try simp only [Act.put, List.setIfInBounds_toArray, List.set_cons_zero, List.set_cons_succ]
  refine wpAnyH_take (i := 4) (oi := { dst := some 18, op := Op.binOp BinOp.eql 3 (Operand.tmp 15) (Operand.tmp 17) 3, type := 4, pos := _, after := #[{ on := 1, ground := Ground.data }, { on := 3, ground := Ground.data }], guard := none }) (v := ?_) rfl (by kernel_rfl) (by kernel_rfl) (by kernel_rfl) (fun _ _ _ h => h) (Or.inl ⟨by rfl, ?_⟩) (by assumption) ?_
  rotate_left
  · intro wt hSw; (try dsimp only at hSw); have a0 := cellB hSw a0 za; have a1 := cellB hSw a1 za; have a2 := cellB hSw a2 za; have a3 := cellB hSw a3 za; have a4 := cellB hSw a4 za; have b0 := cellB hSw b0 zb; have b1 := cellB hSw b1 zb; have b2 := cellB hSw b2 zb; have b3 := cellB hSw b3 zb; have b4 := cellB hSw b4 zb; first | (go_simp; done) | (go_simp; with_reducible rfl) | (trace_state; fail)
  try simp only [Act.put, List.setIfInBounds_toArray, List.set_cons_zero, List.set_cons_succ]
  refine wpAnyH_take (i := 5) (oi := { dst := some 19, op := Op.move (Operand.tmp 18), type := 4, pos := _, after := #[{ on := 4, ground := Ground.data }, { on := 3, ground := Ground.chain }], guard := none }) (v := ?_) rfl (by kernel_rfl) (by kernel_rfl) (by kernel_rfl) (fun _ _ _ h => h) (Or.inl ⟨by rfl, ?_⟩) (by assumption) ?_
  rotate_left
  · intro wt hSw; (try dsimp only at hSw); have a0 := cellB hSw a0 za; have a1 := cellB hSw a1 za; have a2 := cellB hSw a2 za; have a3 := cellB hSw a3 za; have a4 := cellB hSw a4 za; have b0 := cellB hSw b0 zb; have b1 := cellB hSw b1 zb; have b2 := cellB hSw b2 zb; have b3 := cellB hSw b3 zb; have b4 := cellB hSw b4 zb; first | (go_simp; done) | (go_simp; with_reducible rfl) | (trace_state; fail)
  try simp only [Act.put, List.setIfInBounds_toArray, List.set_cons_zero, List.set_cons_succ]
  refine wpAnyH_take (i := 6) (oi := { dst := some 20, op := Op.load 30 (Operand.tmp 2), type := 30, pos := _, after := #[{ on := 5, ground := Ground.guard }], guard := some (5, true) }) (v := ?_) rfl (by kernel_rfl) (by kernel_rfl) (by kernel_rfl) (fun _ _ _ h => h) (Or.inl ⟨by rfl, ?_⟩) (by assumption) ?_
  rotate_left
  · intro wt hSw; (try dsimp only at hSw); have a0 := cellB hSw a0 za; have a1 := cellB hSw a1 za; have a2 := cellB hSw a2 za; have a3 := cellB hSw a3 za; have a4 := cellB hSw a4 za; have b0 := cellB hSw b0 zb; have b1 := cellB hSw b1 zb; have b2 := cellB hSw b2 zb; have b3 := cellB hSw b3 zb; have b4 := cellB hSw b4 zb; first | (go_simp; done) | (go_simp; with_reducible rfl) | (trace_state; fail)
  try simp only [Act.put, List.setIfInBounds_toArray, List.set_cons_zero, List.set_cons_succ]
  refine wpAnyH_take (i := 8) (oi := { dst := some 22, op := Op.load 30 (Operand.tmp 2), type := 30, pos := _, after := #[{ on := 5, ground := Ground.guard }], guard := some (5, true) }) (v := ?_) rfl (by kernel_rfl) (by kernel_rfl) (by kernel_rfl) (fun _ _ _ h => h) (Or.inl ⟨by rfl, ?_⟩) (by assumption) ?_
  rotate_left
  · intro wt hSw; (try dsimp only at hSw); have a0 := cellB hSw a0 za; have a1 := cellB hSw a1 za; have a2 := cellB hSw a2 za; have a3 := cellB hSw a3 za; have a4 := cellB hSw a4 za; have b0 := cellB hSw b0 zb; have b1 := cellB hSw b1 zb; have b2 := cellB hSw b2 zb; have b3 := cellB hSw b3 zb; have b4 := cellB hSw b4 zb; first | (go_simp; done) | (go_simp; with_reducible rfl) | (trace_state; fail)
  try simp only [Act.put, List.setIfInBounds_toArray, List.set_cons_zero, List.set_cons_succ]
  refine wpAnyH_ready (rs := [7]) (by kernel_rfl) (by simp) ?_
  refine AllReadyH.cons (o := { dst := some 21, op := Op.call { callee := Callee.value (Operand.func 14), args := #[Operand.tmp 20], argTypes := #[30] }, type := 3, pos := _, after := #[{ on := 6, ground := Ground.data }, { on := 5, ground := Ground.chain }, { on := 5, ground := Ground.guard }], guard := some (5, true) }) rfl (fun K hK => ?_) AllReadyH.nil
  go_simp
  refine (H3.out _ hHeld).mono ?_; rintro r w2 ⟨rfl, hb⟩; have hHeld := hHeld.trans (hb.mono hHeld.size)
  go_wp2_with fail
  refine hK.out _ _ ?_ (fun hHeld => ?_)
  · (try dsimp only); first | assumption | exact Below.alloc hHeld hHeld.size _ | exact (Below.refl _ _).drew | exact Below.drew (Below.refl _ _) | exact Below_drewN _ _ _ | exact Below.refl _ _ | (trace_state; fail)
  clear hK K
  try simp only [Act.put, List.setIfInBounds_toArray, List.set_cons_zero, List.set_cons_succ]
  refine wpAnyH_ready (rs := [9]) (by kernel_rfl) (by simp) ?_
  refine AllReadyH.cons (o := { dst := some 23, op := Op.call { callee := Callee.value (Operand.func 15), args := #[Operand.tmp 22], argTypes := #[30] }, type := 3, pos := _, after := #[{ on := 8, ground := Ground.data }, { on := 7, ground := Ground.chain }, { on := 5, ground := Ground.guard }], guard := some (5, true) }) rfl (fun K hK => ?_) AllReadyH.nil
  go_simp
  refine (H4.out _ hHeld).mono ?_; rintro r w2 ⟨rfl, hb⟩; have hHeld := hHeld.trans (hb.mono hHeld.size)
  go_wp2_with fail
  refine hK.out _ _ ?_ (fun hHeld => ?_)
  · (try dsimp only); first | assumption | exact Below.alloc hHeld hHeld.size _ | exact (Below.refl _ _).drew | exact Below.drew (Below.refl _ _) | exact Below_drewN _ _ _ | exact Below.refl _ _ | (trace_state; fail)
  clear hK K
  try simp only [Act.put, List.setIfInBounds_toArray, List.set_cons_zero, List.set_cons_succ]
  refine wpAnyH_take (i := 10) (oi := { dst := some 24, op := Op.binOp BinOp.eql 3 (Operand.tmp 21) (Operand.tmp 23) 3, type := 4, pos := _, after := #[{ on := 7, ground := Ground.data }, { on := 9, ground := Ground.data }, { on := 5, ground := Ground.guard }], guard := some (5, true) }) (v := ?_) rfl (by kernel_rfl) (by kernel_rfl) (by kernel_rfl) (fun _ _ _ h => h) (Or.inl ⟨by rfl, ?_⟩) (by assumption) ?_
  rotate_left
  · intro wt hSw; (try dsimp only at hSw); have a0 := cellB hSw a0 za; have a1 := cellB hSw a1 za; have a2 := cellB hSw a2 za; have a3 := cellB hSw a3 za; have a4 := cellB hSw a4 za; have b0 := cellB hSw b0 zb; have b1 := cellB hSw b1 zb; have b2 := cellB hSw b2 zb; have b3 := cellB hSw b3 zb; have b4 := cellB hSw b4 zb; first | (go_simp; done) | (go_simp; with_reducible rfl) | (trace_state; fail)
  try simp only [Act.put, List.setIfInBounds_toArray, List.set_cons_zero, List.set_cons_succ]
  refine wpAnyH_take (i := 11) (oi := { dst := some 25, op := Op.pick (Operand.tmp 19) (Operand.tmp 24) (Operand.const (Value.bool false)), type := 4, pos := _, after := #[{ on := 5, ground := Ground.data }, { on := 10, ground := Ground.data }], guard := none }) (v := ?_) rfl (by kernel_rfl) (by kernel_rfl) (by kernel_rfl) (fun _ _ _ h => h) (Or.inl ⟨by rfl, ?_⟩) (by assumption) ?_
  rotate_left
  · intro wt hSw; (try dsimp only at hSw); have a0 := cellB hSw a0 za; have a1 := cellB hSw a1 za; have a2 := cellB hSw a2 za; have a3 := cellB hSw a3 za; have a4 := cellB hSw a4 za; have b0 := cellB hSw b0 zb; have b1 := cellB hSw b1 zb; have b2 := cellB hSw b2 zb; have b3 := cellB hSw b3 zb; have b4 := cellB hSw b4 zb; first | (go_simp; done) | (go_simp; with_reducible rfl) | (trace_state; fail)
  try simp only [Act.put, List.setIfInBounds_toArray, List.set_cons_zero, List.set_cons_succ]
  refine wpAnyH_take (i := 12) (oi := { dst := some 26, op := Op.move (Operand.tmp 25), type := 4, pos := _, after := #[{ on := 11, ground := Ground.data }, { on := 9, ground := Ground.chain }], guard := none }) (v := ?_) rfl (by kernel_rfl) (by kernel_rfl) (by kernel_rfl) (fun _ _ _ h => h) (Or.inl ⟨by rfl, ?_⟩) (by assumption) ?_
  rotate_left
  · intro wt hSw; (try dsimp only at hSw); have a0 := cellB hSw a0 za; have a1 := cellB hSw a1 za; have a2 := cellB hSw a2 za; have a3 := cellB hSw a3 za; have a4 := cellB hSw a4 za; have b0 := cellB hSw b0 zb; have b1 := cellB hSw b1 zb; have b2 := cellB hSw b2 zb; have b3 := cellB hSw b3 zb; have b4 := cellB hSw b4 zb; first | (go_simp; done) | (go_simp; with_reducible rfl) | (trace_state; fail)
  try simp only [Act.put, List.setIfInBounds_toArray, List.set_cons_zero, List.set_cons_succ]
  refine wpAnyH_take (i := 13) (oi := { dst := some 27, op := Op.load 30 (Operand.tmp 2), type := 30, pos := _, after := #[{ on := 12, ground := Ground.guard }], guard := some (12, true) }) (v := ?_) rfl (by kernel_rfl) (by kernel_rfl) (by kernel_rfl) (fun _ _ _ h => h) (Or.inl ⟨by rfl, ?_⟩) (by assumption) ?_
  rotate_left
  · intro wt hSw; (try dsimp only at hSw); have a0 := cellB hSw a0 za; have a1 := cellB hSw a1 za; have a2 := cellB hSw a2 za; have a3 := cellB hSw a3 za; have a4 := cellB hSw a4 za; have b0 := cellB hSw b0 zb; have b1 := cellB hSw b1 zb; have b2 := cellB hSw b2 zb; have b3 := cellB hSw b3 zb; have b4 := cellB hSw b4 zb; first | (go_simp; done) | (go_simp; with_reducible rfl) | (trace_state; fail)
  try simp only [Act.put, List.setIfInBounds_toArray, List.set_cons_zero, List.set_cons_succ]
  refine wpAnyH_take (i := 15) (oi := { dst := some 29, op := Op.load 30 (Operand.tmp 2), type := 30, pos := _, after := #[{ on := 12, ground := Ground.guard }], guard := some (12, true) }) (v := ?_) rfl (by kernel_rfl) (by kernel_rfl) (by kernel_rfl) (fun _ _ _ h => h) (Or.inl ⟨by rfl, ?_⟩) (by assumption) ?_
  rotate_left
  · intro wt hSw; (try dsimp only at hSw); have a0 := cellB hSw a0 za; have a1 := cellB hSw a1 za; have a2 := cellB hSw a2 za; have a3 := cellB hSw a3 za; have a4 := cellB hSw a4 za; have b0 := cellB hSw b0 zb; have b1 := cellB hSw b1 zb; have b2 := cellB hSw b2 zb; have b3 := cellB hSw b3 zb; have b4 := cellB hSw b4 zb; first | (go_simp; done) | (go_simp; with_reducible rfl) | (trace_state; fail)
  try simp only [Act.put, List.setIfInBounds_toArray, List.set_cons_zero, List.set_cons_succ]
  refine wpAnyH_ready (rs := [14]) (by kernel_rfl) (by simp) ?_
  refine AllReadyH.cons (o := { dst := some 28, op := Op.call { callee := Callee.value (Operand.func 16), args := #[Operand.tmp 27], argTypes := #[30] }, type := 4, pos := _, after := #[{ on := 13, ground := Ground.data }, { on := 12, ground := Ground.chain }, { on := 12, ground := Ground.guard }], guard := some (12, true) }) rfl (fun K hK => ?_) AllReadyH.nil
  go_simp
  refine (H5.out _ hHeld).mono ?_; rintro r w2 ⟨rfl, hb⟩; have hHeld := hHeld.trans (hb.mono hHeld.size)
  go_wp2_with fail
  refine hK.out _ _ ?_ (fun hHeld => ?_)
  · (try dsimp only); first | assumption | exact Below.alloc hHeld hHeld.size _ | exact (Below.refl _ _).drew | exact Below.drew (Below.refl _ _) | exact Below_drewN _ _ _ | exact Below.refl _ _ | (trace_state; fail)
  clear hK K
  try simp only [Act.put, List.setIfInBounds_toArray, List.set_cons_zero, List.set_cons_succ]
  refine wpAnyH_ready (rs := [16]) (by kernel_rfl) (by simp) ?_
  refine AllReadyH.cons (o := { dst := some 30, op := Op.call { callee := Callee.value (Operand.func 17), args := #[Operand.tmp 29], argTypes := #[30] }, type := 4, pos := _, after := #[{ on := 15, ground := Ground.data }, { on := 14, ground := Ground.chain }, { on := 12, ground := Ground.guard }], guard := some (12, true) }) rfl (fun K hK => ?_) AllReadyH.nil
  go_simp
  refine (H6.out _ hHeld).mono ?_; rintro r w2 ⟨rfl, hb⟩; have hHeld := hHeld.trans (hb.mono hHeld.size)
  go_wp2_with fail
  refine hK.out _ _ ?_ (fun hHeld => ?_)
  · (try dsimp only); first | assumption | exact Below.alloc hHeld hHeld.size _ | exact (Below.refl _ _).drew | exact Below.drew (Below.refl _ _) | exact Below_drewN _ _ _ | exact Below.refl _ _ | (trace_state; fail)
  clear hK K
  try simp only [Act.put, List.setIfInBounds_toArray, List.set_cons_zero, List.set_cons_succ]
  refine wpAnyH_take (i := 17) (oi := { dst := some 31, op := Op.binOp BinOp.eql 4 (Operand.tmp 28) (Operand.tmp 30) 4, type := 4, pos := _, after := #[{ on := 14, ground := Ground.data }, { on := 16, ground := Ground.data }, { on := 12, ground := Ground.guard }], guard := some (12, true) }) (v := ?_) rfl (by kernel_rfl) (by kernel_rfl) (by kernel_rfl) (fun _ _ _ h => h) (Or.inl ⟨by rfl, ?_⟩) (by assumption) ?_
  rotate_left
  · intro wt hSw; (try dsimp only at hSw); have a0 := cellB hSw a0 za; have a1 := cellB hSw a1 za; have a2 := cellB hSw a2 za; have a3 := cellB hSw a3 za; have a4 := cellB hSw a4 za; have b0 := cellB hSw b0 zb; have b1 := cellB hSw b1 zb; have b2 := cellB hSw b2 zb; have b3 := cellB hSw b3 zb; have b4 := cellB hSw b4 zb; first | (go_simp; done) | (go_simp; with_reducible rfl) | (trace_state; fail)
  try simp only [Act.put, List.setIfInBounds_toArray, List.set_cons_zero, List.set_cons_succ]
  refine wpAnyH_take (i := 18) (oi := { dst := some 32, op := Op.pick (Operand.tmp 26) (Operand.tmp 31) (Operand.const (Value.bool false)), type := 4, pos := _, after := #[{ on := 12, ground := Ground.data }, { on := 17, ground := Ground.data }], guard := none }) (v := ?_) rfl (by kernel_rfl) (by kernel_rfl) (by kernel_rfl) (fun _ _ _ h => h) (Or.inl ⟨by rfl, ?_⟩) (by assumption) ?_
  rotate_left
  · intro wt hSw; (try dsimp only at hSw); have a0 := cellB hSw a0 za; have a1 := cellB hSw a1 za; have a2 := cellB hSw a2 za; have a3 := cellB hSw a3 za; have a4 := cellB hSw a4 za; have b0 := cellB hSw b0 zb; have b1 := cellB hSw b1 zb; have b2 := cellB hSw b2 zb; have b3 := cellB hSw b3 zb; have b4 := cellB hSw b4 zb; first | (go_simp; done) | (go_simp; with_reducible rfl) | (trace_state; fail)
  try simp only [Act.put, List.setIfInBounds_toArray, List.set_cons_zero, List.set_cons_succ]
  refine wpAnyH_take (i := 19) (oi := { dst := some 33, op := Op.move (Operand.tmp 32), type := 4, pos := _, after := #[{ on := 18, ground := Ground.data }, { on := 16, ground := Ground.chain }], guard := none }) (v := ?_) rfl (by kernel_rfl) (by kernel_rfl) (by kernel_rfl) (fun _ _ _ h => h) (Or.inl ⟨by rfl, ?_⟩) (by assumption) ?_
  rotate_left
  · intro wt hSw; (try dsimp only at hSw); have a0 := cellB hSw a0 za; have a1 := cellB hSw a1 za; have a2 := cellB hSw a2 za; have a3 := cellB hSw a3 za; have a4 := cellB hSw a4 za; have b0 := cellB hSw b0 zb; have b1 := cellB hSw b1 zb; have b2 := cellB hSw b2 zb; have b3 := cellB hSw b3 zb; have b4 := cellB hSw b4 zb; first | (go_simp; done) | (go_simp; with_reducible rfl) | (trace_state; fail)
  try simp only [Act.put, List.setIfInBounds_toArray, List.set_cons_zero, List.set_cons_succ]
  refine wpAnyH_take (i := 20) (oi := { dst := some 34, op := Op.load 30 (Operand.tmp 2), type := 30, pos := _, after := #[{ on := 19, ground := Ground.guard }], guard := some (19, true) }) (v := ?_) rfl (by kernel_rfl) (by kernel_rfl) (by kernel_rfl) (fun _ _ _ h => h) (Or.inl ⟨by rfl, ?_⟩) (by assumption) ?_
  rotate_left
  · intro wt hSw; (try dsimp only at hSw); have a0 := cellB hSw a0 za; have a1 := cellB hSw a1 za; have a2 := cellB hSw a2 za; have a3 := cellB hSw a3 za; have a4 := cellB hSw a4 za; have b0 := cellB hSw b0 zb; have b1 := cellB hSw b1 zb; have b2 := cellB hSw b2 zb; have b3 := cellB hSw b3 zb; have b4 := cellB hSw b4 zb; first | (go_simp; done) | (go_simp; with_reducible rfl) | (trace_state; fail)
  try simp only [Act.put, List.setIfInBounds_toArray, List.set_cons_zero, List.set_cons_succ]
  refine wpAnyH_take (i := 21) (oi := { dst := some 35, op := Op.load 30 (Operand.tmp 3), type := 30, pos := _, after := #[{ on := 19, ground := Ground.guard }], guard := some (19, true) }) (v := ?_) rfl (by kernel_rfl) (by kernel_rfl) (by kernel_rfl) (fun _ _ _ h => h) (Or.inl ⟨by rfl, ?_⟩) (by assumption) ?_
  rotate_left
  · intro wt hSw; (try dsimp only at hSw); have a0 := cellB hSw a0 za; have a1 := cellB hSw a1 za; have a2 := cellB hSw a2 za; have a3 := cellB hSw a3 za; have a4 := cellB hSw a4 za; have b0 := cellB hSw b0 zb; have b1 := cellB hSw b1 zb; have b2 := cellB hSw b2 zb; have b3 := cellB hSw b3 zb; have b4 := cellB hSw b4 zb; first | (go_simp; done) | (go_simp; with_reducible rfl) | (trace_state; fail)
  try simp only [Act.put, List.setIfInBounds_toArray, List.set_cons_zero, List.set_cons_succ]
  refine wpAnyH_take (i := 23) (oi := { dst := some 37, op := Op.load 30 (Operand.tmp 2), type := 30, pos := _, after := #[{ on := 19, ground := Ground.guard }], guard := some (19, true) }) (v := ?_) rfl (by kernel_rfl) (by kernel_rfl) (by kernel_rfl) (fun _ _ _ h => h) (Or.inl ⟨by rfl, ?_⟩) (by assumption) ?_
  rotate_left
  · intro wt hSw; (try dsimp only at hSw); have a0 := cellB hSw a0 za; have a1 := cellB hSw a1 za; have a2 := cellB hSw a2 za; have a3 := cellB hSw a3 za; have a4 := cellB hSw a4 za; have b0 := cellB hSw b0 zb; have b1 := cellB hSw b1 zb; have b2 := cellB hSw b2 zb; have b3 := cellB hSw b3 zb; have b4 := cellB hSw b4 zb; first | (go_simp; done) | (go_simp; with_reducible rfl) | (trace_state; fail)
  try simp only [Act.put, List.setIfInBounds_toArray, List.set_cons_zero, List.set_cons_succ]
  refine wpAnyH_take (i := 24) (oi := { dst := some 38, op := Op.load 30 (Operand.tmp 3), type := 30, pos := _, after := #[{ on := 19, ground := Ground.guard }], guard := some (19, true) }) (v := ?_) rfl (by kernel_rfl) (by kernel_rfl) (by kernel_rfl) (fun _ _ _ h => h) (Or.inl ⟨by rfl, ?_⟩) (by assumption) ?_
  rotate_left
  · intro wt hSw; (try dsimp only at hSw); have a0 := cellB hSw a0 za; have a1 := cellB hSw a1 za; have a2 := cellB hSw a2 za; have a3 := cellB hSw a3 za; have a4 := cellB hSw a4 za; have b0 := cellB hSw b0 zb; have b1 := cellB hSw b1 zb; have b2 := cellB hSw b2 zb; have b3 := cellB hSw b3 zb; have b4 := cellB hSw b4 zb; first | (go_simp; done) | (go_simp; with_reducible rfl) | (trace_state; fail)
  try simp only [Act.put, List.setIfInBounds_toArray, List.set_cons_zero, List.set_cons_succ]
  refine wpAnyH_ready (rs := [22]) (by kernel_rfl) (by simp) ?_
  refine AllReadyH.cons (o := { dst := some 36, op := Op.call { callee := Callee.value (Operand.func 18), args := #[Operand.tmp 34, Operand.tmp 35], argTypes := #[30, 30] }, type := 4, pos := _, after := #[{ on := 20, ground := Ground.data }, { on := 21, ground := Ground.data }, { on := 19, ground := Ground.chain }, { on := 19, ground := Ground.guard }], guard := some (19, true) }) rfl (fun K hK => ?_) AllReadyH.nil
  go_simp
  refine (H7.out _ hHeld).mono ?_; rintro r w2 ⟨rfl, hb⟩; have hHeld := hHeld.trans (hb.mono hHeld.size)
  go_wp2_with fail
  refine hK.out _ _ ?_ (fun hHeld => ?_)
  · (try dsimp only); first | assumption | exact Below.alloc hHeld hHeld.size _ | exact (Below.refl _ _).drew | exact Below.drew (Below.refl _ _) | exact Below_drewN _ _ _ | exact Below.refl _ _ | (trace_state; fail)
  clear hK K
  try simp only [Act.put, List.setIfInBounds_toArray, List.set_cons_zero, List.set_cons_succ]
  refine wpAnyH_ready (rs := [25]) (by kernel_rfl) (by simp) ?_
  refine AllReadyH.cons (o := { dst := some 39, op := Op.call { callee := Callee.value (Operand.func 19), args := #[Operand.tmp 37, Operand.tmp 38], argTypes := #[30, 30] }, type := 4, pos := _, after := #[{ on := 23, ground := Ground.data }, { on := 24, ground := Ground.data }, { on := 22, ground := Ground.chain }, { on := 19, ground := Ground.guard }], guard := some (19, true) }) rfl (fun K hK => ?_) AllReadyH.nil
  go_simp
  refine (H8.out _ hHeld).mono ?_; rintro r w2 ⟨rfl, hb⟩; have hHeld := hHeld.trans (hb.mono hHeld.size)
  go_wp2_with fail
  refine hK.out _ _ ?_ (fun hHeld => ?_)
  · (try dsimp only); first | assumption | exact Below.alloc hHeld hHeld.size _ | exact (Below.refl _ _).drew | exact Below.drew (Below.refl _ _) | exact Below_drewN _ _ _ | exact Below.refl _ _ | (trace_state; fail)
  clear hK K
  try simp only [Act.put, List.setIfInBounds_toArray, List.set_cons_zero, List.set_cons_succ]
  refine wpAnyH_take (i := 26) (oi := { dst := some 40, op := Op.binOp BinOp.eql 4 (Operand.tmp 36) (Operand.tmp 39) 4, type := 4, pos := _, after := #[{ on := 22, ground := Ground.data }, { on := 25, ground := Ground.data }, { on := 19, ground := Ground.guard }], guard := some (19, true) }) (v := ?_) rfl (by kernel_rfl) (by kernel_rfl) (by kernel_rfl) (fun _ _ _ h => h) (Or.inl ⟨by rfl, ?_⟩) (by assumption) ?_
  rotate_left
  · intro wt hSw; (try dsimp only at hSw); have a0 := cellB hSw a0 za; have a1 := cellB hSw a1 za; have a2 := cellB hSw a2 za; have a3 := cellB hSw a3 za; have a4 := cellB hSw a4 za; have b0 := cellB hSw b0 zb; have b1 := cellB hSw b1 zb; have b2 := cellB hSw b2 zb; have b3 := cellB hSw b3 zb; have b4 := cellB hSw b4 zb; first | (go_simp; done) | (go_simp; with_reducible rfl) | (trace_state; fail)
  try simp only [Act.put, List.setIfInBounds_toArray, List.set_cons_zero, List.set_cons_succ]
  refine wpAnyH_take (i := 27) (oi := { dst := some 41, op := Op.pick (Operand.tmp 33) (Operand.tmp 40) (Operand.const (Value.bool false)), type := 4, pos := _, after := #[{ on := 19, ground := Ground.data }, { on := 26, ground := Ground.data }], guard := none }) (v := ?_) rfl (by kernel_rfl) (by kernel_rfl) (by kernel_rfl) (fun _ _ _ h => h) (Or.inl ⟨by rfl, ?_⟩) (by assumption) ?_
  rotate_left
  · intro wt hSw; (try dsimp only at hSw); have a0 := cellB hSw a0 za; have a1 := cellB hSw a1 za; have a2 := cellB hSw a2 za; have a3 := cellB hSw a3 za; have a4 := cellB hSw a4 za; have b0 := cellB hSw b0 zb; have b1 := cellB hSw b1 zb; have b2 := cellB hSw b2 zb; have b3 := cellB hSw b3 zb; have b4 := cellB hSw b4 zb; first | (go_simp; done) | (go_simp; with_reducible rfl) | (trace_state; fail)
  try simp only [Act.put, List.setIfInBounds_toArray, List.set_cons_zero, List.set_cons_succ]
  refine wpAnyH_take (i := 28) (oi := { dst := some 42, op := Op.move (Operand.tmp 41), type := 4, pos := _, after := #[{ on := 27, ground := Ground.data }, { on := 25, ground := Ground.chain }], guard := none }) (v := ?_) rfl (by kernel_rfl) (by kernel_rfl) (by kernel_rfl) (fun _ _ _ h => h) (Or.inl ⟨by rfl, ?_⟩) (by assumption) ?_
  rotate_left
  · intro wt hSw; (try dsimp only at hSw); have a0 := cellB hSw a0 za; have a1 := cellB hSw a1 za; have a2 := cellB hSw a2 za; have a3 := cellB hSw a3 za; have a4 := cellB hSw a4 za; have b0 := cellB hSw b0 zb; have b1 := cellB hSw b1 zb; have b2 := cellB hSw b2 zb; have b3 := cellB hSw b3 zb; have b4 := cellB hSw b4 zb; first | (go_simp; done) | (go_simp; with_reducible rfl) | (trace_state; fail)
  try simp only [Act.put, List.setIfInBounds_toArray, List.set_cons_zero, List.set_cons_succ]
  refine wpAnyH_take (i := 29) (oi := { dst := some 43, op := Op.load 30 (Operand.tmp 2), type := 30, pos := _, after := #[{ on := 28, ground := Ground.guard }], guard := some (28, true) }) (v := ?_) rfl (by kernel_rfl) (by kernel_rfl) (by kernel_rfl) (fun _ _ _ h => h) (Or.inl ⟨by rfl, ?_⟩) (by assumption) ?_
  rotate_left
  · intro wt hSw; (try dsimp only at hSw); have a0 := cellB hSw a0 za; have a1 := cellB hSw a1 za; have a2 := cellB hSw a2 za; have a3 := cellB hSw a3 za; have a4 := cellB hSw a4 za; have b0 := cellB hSw b0 zb; have b1 := cellB hSw b1 zb; have b2 := cellB hSw b2 zb; have b3 := cellB hSw b3 zb; have b4 := cellB hSw b4 zb; first | (go_simp; done) | (go_simp; with_reducible rfl) | (trace_state; fail)
  try simp only [Act.put, List.setIfInBounds_toArray, List.set_cons_zero, List.set_cons_succ]
  refine wpAnyH_take (i := 30) (oi := { dst := some 44, op := Op.load 30 (Operand.tmp 2), type := 30, pos := _, after := #[{ on := 28, ground := Ground.guard }], guard := some (28, true) }) (v := ?_) rfl (by kernel_rfl) (by kernel_rfl) (by kernel_rfl) (fun _ _ _ h => h) (Or.inl ⟨by rfl, ?_⟩) (by assumption) ?_
  rotate_left
  · intro wt hSw; (try dsimp only at hSw); have a0 := cellB hSw a0 za; have a1 := cellB hSw a1 za; have a2 := cellB hSw a2 za; have a3 := cellB hSw a3 za; have a4 := cellB hSw a4 za; have b0 := cellB hSw b0 zb; have b1 := cellB hSw b1 zb; have b2 := cellB hSw b2 zb; have b3 := cellB hSw b3 zb; have b4 := cellB hSw b4 zb; first | (go_simp; done) | (go_simp; with_reducible rfl) | (trace_state; fail)
  try simp only [Act.put, List.setIfInBounds_toArray, List.set_cons_zero, List.set_cons_succ]
  refine wpAnyH_ready (rs := [31]) (by kernel_rfl) (by simp) ?_
  refine AllReadyH.cons (o := { dst := some 45, op := Op.call { callee := Callee.value (Operand.func 18), args := #[Operand.tmp 43, Operand.tmp 44], argTypes := #[30, 30] }, type := 4, pos := _, after := #[{ on := 29, ground := Ground.data }, { on := 30, ground := Ground.data }, { on := 28, ground := Ground.chain }, { on := 28, ground := Ground.guard }], guard := some (28, true) }) rfl (fun K hK => ?_) AllReadyH.nil
  go_simp
  refine (H9.out _ hHeld).mono ?_; rintro r w2 ⟨rfl, hb⟩; have hHeld := hHeld.trans (hb.mono hHeld.size)
  go_wp2_with fail
  refine hK.out _ _ ?_ (fun hHeld => ?_)
  · (try dsimp only); first | assumption | exact Below.alloc hHeld hHeld.size _ | exact (Below.refl _ _).drew | exact Below.drew (Below.refl _ _) | exact Below_drewN _ _ _ | exact Below.refl _ _ | (trace_state; fail)
  clear hK K
  try simp only [Act.put, List.setIfInBounds_toArray, List.set_cons_zero, List.set_cons_succ]
  refine wpAnyH_take (i := 32) (oi := { dst := some 46, op := Op.pick (Operand.tmp 42) (Operand.tmp 45) (Operand.const (Value.bool false)), type := 4, pos := _, after := #[{ on := 28, ground := Ground.data }, { on := 31, ground := Ground.data }], guard := none }) (v := ?_) rfl (by kernel_rfl) (by kernel_rfl) (by kernel_rfl) (fun _ _ _ h => h) (Or.inl ⟨by rfl, ?_⟩) (by assumption) ?_
  rotate_left
  · intro wt hSw; (try dsimp only at hSw); have a0 := cellB hSw a0 za; have a1 := cellB hSw a1 za; have a2 := cellB hSw a2 za; have a3 := cellB hSw a3 za; have a4 := cellB hSw a4 za; have b0 := cellB hSw b0 zb; have b1 := cellB hSw b1 zb; have b2 := cellB hSw b2 zb; have b3 := cellB hSw b3 zb; have b4 := cellB hSw b4 zb; first | (go_simp; done) | (go_simp; with_reducible rfl) | (trace_state; fail)
  try simp only [Act.put, List.setIfInBounds_toArray, List.set_cons_zero, List.set_cons_succ]
  refine wpAnyH_take (i := 33) (oi := { dst := some 47, op := Op.move (Operand.tmp 46), type := 4, pos := _, after := #[{ on := 32, ground := Ground.data }, { on := 31, ground := Ground.chain }], guard := none }) (v := ?_) rfl (by kernel_rfl) (by kernel_rfl) (by kernel_rfl) (fun _ _ _ h => h) (Or.inl ⟨by rfl, ?_⟩) (by assumption) ?_
  rotate_left
  · intro wt hSw; (try dsimp only at hSw); have a0 := cellB hSw a0 za; have a1 := cellB hSw a1 za; have a2 := cellB hSw a2 za; have a3 := cellB hSw a3 za; have a4 := cellB hSw a4 za; have b0 := cellB hSw b0 zb; have b1 := cellB hSw b1 zb; have b2 := cellB hSw b2 zb; have b3 := cellB hSw b3 zb; have b4 := cellB hSw b4 zb; first | (go_simp; done) | (go_simp; with_reducible rfl) | (trace_state; fail)
  try simp only [Act.put, List.setIfInBounds_toArray, List.set_cons_zero, List.set_cons_succ]
  refine wpAnyH_ready (rs := [34]) (by kernel_rfl) (by simp) ?_
  refine AllReadyH.cons (o := { dst := some 48, op := Op.call { callee := Callee.value (Operand.func 8), args := #[], argTypes := #[] }, type := 4, pos := _, after := #[{ on := 33, ground := Ground.chain }, { on := 33, ground := Ground.guard }], guard := some (33, true) }) rfl (fun K hK => ?_) AllReadyH.nil
  go_simp
  refine (HA.out _ hHeld).mono ?_; rintro r w2 ⟨rfl, hb⟩; have hHeld := hHeld.trans (hb.mono hHeld.size)
  go_wp2_with fail
  refine hK.out _ _ ?_ (fun hHeld => ?_)
  · (try dsimp only); first | assumption | exact Below.alloc hHeld hHeld.size _ | exact (Below.refl _ _).drew | exact Below.drew (Below.refl _ _) | exact Below_drewN _ _ _ | exact Below.refl _ _ | (trace_state; fail)
  clear hK K
  try simp only [Act.put, List.setIfInBounds_toArray, List.set_cons_zero, List.set_cons_succ]
  refine wpAnyH_take (i := 35) (oi := { dst := some 49, op := Op.pick (Operand.tmp 47) (Operand.tmp 48) (Operand.const (Value.bool false)), type := 4, pos := _, after := #[{ on := 33, ground := Ground.data }, { on := 34, ground := Ground.data }], guard := none }) (v := ?_) rfl (by kernel_rfl) (by kernel_rfl) (by kernel_rfl) (fun _ _ _ h => h) (Or.inl ⟨by rfl, ?_⟩) (by assumption) ?_
  rotate_left
  · intro wt hSw; (try dsimp only at hSw); have a0 := cellB hSw a0 za; have a1 := cellB hSw a1 za; have a2 := cellB hSw a2 za; have a3 := cellB hSw a3 za; have a4 := cellB hSw a4 za; have b0 := cellB hSw b0 zb; have b1 := cellB hSw b1 zb; have b2 := cellB hSw b2 zb; have b3 := cellB hSw b3 zb; have b4 := cellB hSw b4 zb; first | (go_simp; done) | (go_simp; with_reducible rfl) | (trace_state; fail)
  try simp only [Act.put, List.setIfInBounds_toArray, List.set_cons_zero, List.set_cons_succ]
  refine wpAnyH_take (i := 36) (oi := { dst := some 4, op := Op.assign (Operand.tmp 49), type := 4, pos := _, after := #[{ on := 35, ground := Ground.data }, { on := 34, ground := Ground.chain }, { on := 0, ground := Ground.phase }, { on := 1, ground := Ground.phase }, { on := 2, ground := Ground.phase }, { on := 3, ground := Ground.phase }, { on := 4, ground := Ground.phase }, { on := 5, ground := Ground.phase }, { on := 6, ground := Ground.phase }, { on := 7, ground := Ground.phase }, { on := 8, ground := Ground.phase }, { on := 9, ground := Ground.phase }, { on := 10, ground := Ground.phase }, { on := 11, ground := Ground.phase }, { on := 12, ground := Ground.phase }, { on := 13, ground := Ground.phase }, { on := 14, ground := Ground.phase }, { on := 15, ground := Ground.phase }, { on := 16, ground := Ground.phase }, { on := 17, ground := Ground.phase }, { on := 18, ground := Ground.phase }, { on := 19, ground := Ground.phase }, { on := 20, ground := Ground.phase }, { on := 21, ground := Ground.phase }, { on := 22, ground := Ground.phase }, { on := 23, ground := Ground.phase }, { on := 24, ground := Ground.phase }, { on := 25, ground := Ground.phase }, { on := 26, ground := Ground.phase }, { on := 27, ground := Ground.phase }, { on := 28, ground := Ground.phase }, { on := 29, ground := Ground.phase }, { on := 30, ground := Ground.phase }, { on := 31, ground := Ground.phase }, { on := 32, ground := Ground.phase }, { on := 33, ground := Ground.phase }, { on := 34, ground := Ground.phase }, { on := 35, ground := Ground.phase }], guard := none }) (v := ?_) rfl (by kernel_rfl) (by kernel_rfl) (by kernel_rfl) (fun _ _ _ h => h) (Or.inl ⟨by rfl, ?_⟩) (by assumption) ?_
  rotate_left
  · intro wt hSw; (try dsimp only at hSw); have a0 := cellB hSw a0 za; have a1 := cellB hSw a1 za; have a2 := cellB hSw a2 za; have a3 := cellB hSw a3 za; have a4 := cellB hSw a4 za; have b0 := cellB hSw b0 zb; have b1 := cellB hSw b1 zb; have b2 := cellB hSw b2 zb; have b3 := cellB hSw b3 zb; have b4 := cellB hSw b4 zb; first | (go_simp; done) | (go_simp; with_reducible rfl) | (trace_state; fail)
  try simp only [Act.put, List.setIfInBounds_toArray, List.set_cons_zero, List.set_cons_succ]
  refine wpAnyH_done (by kernel_rfl) ?_ _
  have HHw := Lib.hid (HBe.out _ hHeld)
  clear hHeld
  go_wp2_with fail
  go_ret
  exact ⟨rfl, HHw.out⟩
end Go.Proofs.YtpecpeedefeokaaDoor
