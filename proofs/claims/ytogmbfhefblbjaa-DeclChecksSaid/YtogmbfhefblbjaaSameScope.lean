/- Layer 17: scopes that are the same. -/
import Derived.Test.YtogmbfhefblbjaaRefScope
import Derived.Test.YtogmbfhefblbjaaSameRows
import Derived.Test.YtogmbfhefblbjaaInts
namespace Go.Proofs.Ytogmbfhefblbjaa
open Go.RowKit
set_option linter.unusedSimpArgs false
set_option linter.unusedVariables false
set_option maxHeartbeats 8000000 in
theorem ref17_SameScope (a b c d a' b' c' d' : Value) (p : Pr) (u : Int) (w : World) (h : ScopeAt w a b c d p u) (h' : ScopeAt w a' b' c' d' p u) :
    Calls Try.prog 11 #[.agg #[a, b, c, d], .agg #[a', b', c', d']] w fun e w' => e = .returned (.bool true) ∧ Below w.heap.size w w' := by
  obtain ⟨h1, h2, h3, h4⟩ := h
  obtain ⟨k1, k2, k3, k4⟩ := h'
  have hul := h3.len
  obtain ⟨s1, t1, rfl⟩ := row_get h1
  obtain ⟨s2, t2, rfl⟩ := row_get h2
  obtain ⟨s3, t3, rfl⟩ := row_get h3
  obtain ⟨s4, t4, rfl⟩ := row_get h4
  obtain ⟨s1', t1', rfl⟩ := row_get k1
  obtain ⟨s2', t2', rfl⟩ := row_get k2
  obtain ⟨s3', t3', rfl⟩ := row_get k3
  obtain ⟨s4', t4', rfl⟩ := row_get k4
  obtain ⟨SG, hSG⟩ : ∃ S, (p.units.map fun x => (x.params, x.result)) = S := ⟨_, rfl⟩
  rw [hSG] at h3 k3 hul
  rw [hSG]
  obtain ⟨n, hn⟩ : ∃ n, SG.length = n := ⟨_, rfl⟩
  have HN := Lib.hid hn
  rw [hn] at h3 k3 hul ⊢
  clear hSG hn
  obtain ⟨W1, hW1⟩ : ∃ W1, W1 = (w.alloc (.cells #[.slice s1 p.vars.length t1, .slice s2 p.blocks.length t2, .slice s3 n t3, .slice s4 (scopeL p u).length t4] 37)).alloc (.cells #[.slice s1' p.vars.length t1', .slice s2' p.blocks.length t2', .slice s3' n t3', .slice s4' (scopeL p u).length t4'] 37) := ⟨_, rfl⟩
  have hb : Below w.heap.size w W1 := by rw [hW1]; exact by (repeat' (first | (with_reducible exact Below.refl _ _) | (with_reducible assumption) | (with_reducible refine below_drewN ?_ _) | (with_reducible refine Below.alloc ?_ ?_ _) | (with_reducible refine Below.drew ?_) | (with_reducible refine Below.setCell ?_ ?_ _) | go_size))
  have hz : W1.heap.size = w.heap.size + 2 := by rw [hW1]; simp
  have hj := Lib.hid (show W1.heap[w.heap.size]? = some (.cells #[.slice s1 p.vars.length t1, .slice s2 p.blocks.length t2, .slice s3 n t3, .slice s4 (scopeL p u).length t4] 37) by rw [hW1]; exact (get_past (by simp)).trans (get_last rfl))
  have hj' := Lib.hid (show W1.heap[w.heap.size + 1]? = some (.cells #[.slice s1' p.vars.length t1', .slice s2' p.blocks.length t2', .slice s3' n t3', .slice s4' (scopeL p u).length t4'] 37) by rw [hW1]; exact get_last (by simp))
  have HW1 := Lib.hid hW1
  have HB := Lib.hid hb
  have HV := Lib.hid (fun W (h : Below w.heap.size w W) => ref14_SameVars _ _ p.vars W (h1.below varR_stable h) (k1.below varR_stable h))
  have HK := Lib.hid (fun W (h : Below w.heap.size w W) => ref14_SameBlocks _ _ p.blocks W (h2.below blkR_stable h) (k2.below blkR_stable h))
  have HS := Lib.hid (fun W (h : Below w.heap.size w W) => ref15_Ints _ _ (scopeL p u) (scopeL p u) W (h4.below intR_stable h) (k4.below intR_stable h))
  have H3 := Lib.hid h3
  have K3 := Lib.hid k3
  have c0 := obj_cell hj.out (i := 0) rfl
  have c1 := obj_cell hj.out (i := 1) rfl
  have c2 := obj_cell hj.out (i := 2) rfl
  have c3 := obj_cell hj.out (i := 3) rfl
  have e0 := obj_cell hj'.out (i := 0) rfl
  have e1 := obj_cell hj'.out (i := 1) rfl
  have e2 := obj_cell hj'.out (i := 2) rfl
  have e3 := obj_cell hj'.out (i := 3) rfl
  have hdec : decide (scopeL p u = scopeL p u) = true := by simp
  clear hW1 hb h1 h2 h3 h4 k1 k2 k3 k4
  go_enter Try.func11, Try.ntmps11
  go_upto_region 1 with fail
  rw [← HW1.out]
  go_wp2_with fail
  refine (HV.out _ HB.out).mono ?_; rintro e v1 ⟨rfl, m1, hv1⟩
  have hB1 : Below W1.heap.size W1 v1 := by rw [hv1]; exact Below_drewN _ _ _
  clear hv1 c0 c1 c2 c3 e0 e1 e2 e3
  have c0 := obj_cell (obj_below hj.out hB1 (by omega)) (i := 0) rfl
  have e0 := obj_cell (obj_below hj'.out hB1 (by omega)) (i := 0) rfl
  have c1 := obj_cell (obj_below hj.out hB1 (by omega)) (i := 1) rfl
  have e1 := obj_cell (obj_below hj'.out hB1 (by omega)) (i := 1) rfl
  have c2 := obj_cell (obj_below hj.out hB1 (by omega)) (i := 2) rfl
  have e2 := obj_cell (obj_below hj'.out hB1 (by omega)) (i := 2) rfl
  have c3 := obj_cell (obj_below hj.out hB1 (by omega)) (i := 3) rfl
  have e3 := obj_cell (obj_below hj'.out hB1 (by omega)) (i := 3) rfl
  go_wp2_with fail
  refine (HK.out _ (HB.out.trans (hB1.mono HB.out.size))).mono ?_; rintro e v2 ⟨rfl, m2, hv2⟩
  have hB2 : Below W1.heap.size W1 v2 := hB1.trans (by rw [hv2]; exact (Below_drewN _ _ _ : Below v1.heap.size v1 (v1.drewN m2)).mono hB1.size)
  clear hv2 c0 c1 c2 c3 e0 e1 e2 e3
  have c0 := obj_cell (obj_below hj.out hB2 (by omega)) (i := 0) rfl
  have e0 := obj_cell (obj_below hj'.out hB2 (by omega)) (i := 0) rfl
  have c1 := obj_cell (obj_below hj.out hB2 (by omega)) (i := 1) rfl
  have e1 := obj_cell (obj_below hj'.out hB2 (by omega)) (i := 1) rfl
  have c2 := obj_cell (obj_below hj.out hB2 (by omega)) (i := 2) rfl
  have e2 := obj_cell (obj_below hj'.out hB2 (by omega)) (i := 2) rfl
  have c3 := obj_cell (obj_below hj.out hB2 (by omega)) (i := 3) rfl
  have e3 := obj_cell (obj_below hj'.out hB2 (by omega)) (i := 3) rfl
  go_wp2_with fail
  refine (HS.out _ (HB.out.trans (hB2.mono HB.out.size))).mono ?_; rintro e v3 ⟨rfl, m3, hv3⟩
  rw [hdec]
  have hB3 : Below W1.heap.size W1 v3 := hB2.trans (by rw [hv3]; exact (Below_drewN _ _ _ : Below v2.heap.size v2 (v2.drewN m3)).mono hB2.size)
  clear hv3 c0 c1 c2 c3 e0 e1 e2 e3
  have c0 := obj_cell (obj_below hj.out hB3 (by omega)) (i := 0) rfl
  have e0 := obj_cell (obj_below hj'.out hB3 (by omega)) (i := 0) rfl
  have c1 := obj_cell (obj_below hj.out hB3 (by omega)) (i := 1) rfl
  have e1 := obj_cell (obj_below hj'.out hB3 (by omega)) (i := 1) rfl
  have c2 := obj_cell (obj_below hj.out hB3 (by omega)) (i := 2) rfl
  have e2 := obj_cell (obj_below hj'.out hB3 (by omega)) (i := 2) rfl
  have c3 := obj_cell (obj_below hj.out hB3 (by omega)) (i := 3) rfl
  have e3 := obj_cell (obj_below hj'.out hB3 (by omega)) (i := 3) rfl
  have HB3 := Lib.hid hB3
  clear hB1 hB2 hB3
  go_wp2_with fail
  go_loopw [5] (fun jj wr => ∃ (k : Nat), k ≤ n ∧ jj = .int .i64 k ∧ Hid (Below W1.heap.size W1 wr)) (fun jj _ => n - (intOf jj).toNat)
  case atStart => exact ⟨0, by omega, rfl, HB3⟩
  case round =>
    clear HB3 c0 c1 c2 c3 e0 e1 e2 e3
    obtain ⟨k, hk, rfl, HBr⟩ := hrel
    have hq := obj_below hj.out HBr.out (by omega)
    have hq' := obj_below hj'.out HBr.out (by omega)
    have e2 := obj_cell hq (i := 2) rfl
    have f2 := obj_cell hq' (i := 2) rfl
    have z1 := heap_lt hq
    have z2 := heap_lt hq'
    have HBw := Lib.hid (HB.out.trans (HBr.out.mono HB.out.size))
    clear hq hq'
    by_cases hlt : k < n
    · have qk : ((k : Int) < (n : Int)) = True := eq_true (by omega)
      obtain ⟨x, hx⟩ := get_some (L := SG) (n := k) (by rw [HN.out]; exact hlt)
      obtain ⟨b1, o1, rfl, hb1, hc1⟩ := row_at H3.out (k := k) (by rw [HN.out]; exact hlt)
      obtain ⟨b2, o2, rfl, hb2, hc2⟩ := row_at K3.out (k := k) (by rw [HN.out]; exact hlt)
      obtain ⟨C, _, g2, r, rfl, hr⟩ := hc1 k x hx
      obtain ⟨C', _, g2', r', rfl, hr'⟩ := hc2 k x hx
      obtain ⟨ar, cr, rfl⟩ := row_get hr
      obtain ⟨ar', cr', rfl⟩ := row_get hr'
      have d0 := (HBw.out.cell (p := ⟨b1, o1 + k * 2 + 0, none⟩) hb1).trans (g2 0 _ rfl)
      have d1 := (HBw.out.cell (p := ⟨b1, o1 + k * 2 + 1, none⟩) hb1).trans (g2 1 _ rfl)
      have g0 := (HBw.out.cell (p := ⟨b2, o2 + k * 2 + 0, none⟩) hb2).trans (g2' 0 _ rfl)
      have g1 := (HBw.out.cell (p := ⟨b2, o2 + k * 2 + 1, none⟩) hb2).trans (g2' 1 _ rfl)
      simp only [Nat.add_zero] at d0 g0
      have y1 : b1 < wr.heap.size := World.block_lt_of_cell? _ _ d1
      have y2 : b2 < wr.heap.size := World.block_lt_of_cell? _ _ g1
      have HIn := Lib.hid (fun W (h : Below wr.heap.size wr W) => (show Calls Try.prog 37 #[.slice ar x.1.length cr, .slice ar' x.1.length cr'] W fun e w' => e = .returned (.bool true) ∧ ∃ m, w' = W.drewN m from (ref15_Ints _ _ x.1 x.1 W (hr.below intR_stable (HBw.out.trans (h.mono HBw.out.size))) (hr'.below intR_stable (HBw.out.trans (h.mono HBw.out.size)))).mono (by rintro e w' ⟨rfl, hm⟩; exact ⟨by simp, hm⟩)))
      clear hc1 hc2 g2 g2' hr hr' hx
      go_wp2_with fail
      refine wp_region_held_drew (S := (fun w' => Below wr.heap.size wr w')) (by kernel_rfl) ?_ (fun hHeld => ?_)
      · (try dsimp only); first | assumption | exact Below.alloc hHeld hHeld.size _ | exact (Below.refl _ _).drew | exact Below.drew (Below.refl _ _) | exact Below_drewN _ _ _ | exact Below.refl _ _ | (trace_state; fail)
      refine wpAnyH_take (i := 0) (oi := { dst := some 44, op := Op.fieldAddr 37 (Operand.tmp 2) 2, type := 0, pos := _, after := #[], guard := none }) (v := ?_) rfl (by kernel_rfl) (by kernel_rfl) (by kernel_rfl) (fun _ _ _ h => h) (Or.inl ⟨by rfl, ?_⟩) (by assumption) ?_
      rotate_left
      · intro wt hSw; (try dsimp only at hSw); have e2 := cellB hSw e2 z1; have f2 := cellB hSw f2 z2; have d0 := cellB hSw d0 y1; have d1 := cellB hSw d1 y1; have g0 := cellB hSw g0 y2; have g1 := cellB hSw g1 y2; first | (go_simp; done) | (go_simp; with_reducible rfl) | (trace_state; fail)
      try simp only [Act.put, List.setIfInBounds_toArray, List.set_cons_zero, List.set_cons_succ]
      refine wpAnyH_take (i := 1) (oi := { dst := some 45, op := Op.load 34 (Operand.tmp 44), type := 34, pos := _, after := #[{ on := 0, ground := Ground.data }], guard := none }) (v := ?_) rfl (by kernel_rfl) (by kernel_rfl) (by kernel_rfl) (fun _ _ _ h => h) (Or.inl ⟨by rfl, ?_⟩) (by assumption) ?_
      rotate_left
      · intro wt hSw; (try dsimp only at hSw); have e2 := cellB hSw e2 z1; have f2 := cellB hSw f2 z2; have d0 := cellB hSw d0 y1; have d1 := cellB hSw d1 y1; have g0 := cellB hSw g0 y2; have g1 := cellB hSw g1 y2; first | (go_simp; done) | (go_simp; with_reducible rfl) | (trace_state; fail)
      try simp only [Act.put, List.setIfInBounds_toArray, List.set_cons_zero, List.set_cons_succ]
      refine wpAnyH_take (i := 2) (oi := { dst := some 46, op := Op.move (Operand.tmp 5), type := 3, pos := _, after := #[], guard := none }) (v := ?_) rfl (by kernel_rfl) (by kernel_rfl) (by kernel_rfl) (fun _ _ _ h => h) (Or.inl ⟨by rfl, ?_⟩) (by assumption) ?_
      rotate_left
      · intro wt hSw; (try dsimp only at hSw); have e2 := cellB hSw e2 z1; have f2 := cellB hSw f2 z2; have d0 := cellB hSw d0 y1; have d1 := cellB hSw d1 y1; have g0 := cellB hSw g0 y2; have g1 := cellB hSw g1 y2; first | (go_simp; done) | (go_simp; with_reducible rfl) | (trace_state; fail)
      try simp only [Act.put, List.setIfInBounds_toArray, List.set_cons_zero, List.set_cons_succ]
      refine wpAnyH_take (i := 3) (oi := { dst := some 47, op := Op.indexAddr 34 (Operand.tmp 45) (Operand.tmp 46), type := 0, pos := _, after := #[{ on := 1, ground := Ground.data }, { on := 2, ground := Ground.data }], guard := none }) (v := ?_) rfl (by kernel_rfl) (by kernel_rfl) (by kernel_rfl) (fun _ _ _ h => h) (Or.inl ⟨by rfl, ?_⟩) (by assumption) ?_
      rotate_left
      · intro wt hSw; (try dsimp only at hSw); have e2 := cellB hSw e2 z1; have f2 := cellB hSw f2 z2; have d0 := cellB hSw d0 y1; have d1 := cellB hSw d1 y1; have g0 := cellB hSw g0 y2; have g1 := cellB hSw g1 y2; first | (go_simp; done) | (go_simp; with_reducible rfl) | (trace_state; fail)
      try simp only [Act.put, List.setIfInBounds_toArray, List.set_cons_zero, List.set_cons_succ]
      refine wpAnyH_take (i := 4) (oi := { dst := some 48, op := Op.fieldAddr 72 (Operand.tmp 47) 1, type := 0, pos := _, after := #[{ on := 3, ground := Ground.data }], guard := none }) (v := ?_) rfl (by kernel_rfl) (by kernel_rfl) (by kernel_rfl) (fun _ _ _ h => h) (Or.inl ⟨by rfl, ?_⟩) (by assumption) ?_
      rotate_left
      · intro wt hSw; (try dsimp only at hSw); have e2 := cellB hSw e2 z1; have f2 := cellB hSw f2 z2; have d0 := cellB hSw d0 y1; have d1 := cellB hSw d1 y1; have g0 := cellB hSw g0 y2; have g1 := cellB hSw g1 y2; first | (go_simp; done) | (go_simp; with_reducible rfl) | (trace_state; fail)
      try simp only [Act.put, List.setIfInBounds_toArray, List.set_cons_zero, List.set_cons_succ]
      refine wpAnyH_take (i := 5) (oi := { dst := some 49, op := Op.load 3 (Operand.tmp 48), type := 3, pos := _, after := #[{ on := 4, ground := Ground.data }], guard := none }) (v := ?_) rfl (by kernel_rfl) (by kernel_rfl) (by kernel_rfl) (fun _ _ _ h => h) (Or.inl ⟨by rfl, ?_⟩) (by assumption) ?_
      rotate_left
      · intro wt hSw; (try dsimp only at hSw); have e2 := cellB hSw e2 z1; have f2 := cellB hSw f2 z2; have d0 := cellB hSw d0 y1; have d1 := cellB hSw d1 y1; have g0 := cellB hSw g0 y2; have g1 := cellB hSw g1 y2; first | (go_simp; done) | (go_simp; with_reducible rfl) | (trace_state; fail)
      try simp only [Act.put, List.setIfInBounds_toArray, List.set_cons_zero, List.set_cons_succ]
      refine wpAnyH_take (i := 6) (oi := { dst := some 50, op := Op.fieldAddr 37 (Operand.tmp 3) 2, type := 0, pos := _, after := #[], guard := none }) (v := ?_) rfl (by kernel_rfl) (by kernel_rfl) (by kernel_rfl) (fun _ _ _ h => h) (Or.inl ⟨by rfl, ?_⟩) (by assumption) ?_
      rotate_left
      · intro wt hSw; (try dsimp only at hSw); have e2 := cellB hSw e2 z1; have f2 := cellB hSw f2 z2; have d0 := cellB hSw d0 y1; have d1 := cellB hSw d1 y1; have g0 := cellB hSw g0 y2; have g1 := cellB hSw g1 y2; first | (go_simp; done) | (go_simp; with_reducible rfl) | (trace_state; fail)
      try simp only [Act.put, List.setIfInBounds_toArray, List.set_cons_zero, List.set_cons_succ]
      refine wpAnyH_take (i := 7) (oi := { dst := some 51, op := Op.load 34 (Operand.tmp 50), type := 34, pos := _, after := #[{ on := 6, ground := Ground.data }], guard := none }) (v := ?_) rfl (by kernel_rfl) (by kernel_rfl) (by kernel_rfl) (fun _ _ _ h => h) (Or.inl ⟨by rfl, ?_⟩) (by assumption) ?_
      rotate_left
      · intro wt hSw; (try dsimp only at hSw); have e2 := cellB hSw e2 z1; have f2 := cellB hSw f2 z2; have d0 := cellB hSw d0 y1; have d1 := cellB hSw d1 y1; have g0 := cellB hSw g0 y2; have g1 := cellB hSw g1 y2; first | (go_simp; done) | (go_simp; with_reducible rfl) | (trace_state; fail)
      try simp only [Act.put, List.setIfInBounds_toArray, List.set_cons_zero, List.set_cons_succ]
      refine wpAnyH_take (i := 8) (oi := { dst := some 52, op := Op.move (Operand.tmp 5), type := 3, pos := _, after := #[], guard := none }) (v := ?_) rfl (by kernel_rfl) (by kernel_rfl) (by kernel_rfl) (fun _ _ _ h => h) (Or.inl ⟨by rfl, ?_⟩) (by assumption) ?_
      rotate_left
      · intro wt hSw; (try dsimp only at hSw); have e2 := cellB hSw e2 z1; have f2 := cellB hSw f2 z2; have d0 := cellB hSw d0 y1; have d1 := cellB hSw d1 y1; have g0 := cellB hSw g0 y2; have g1 := cellB hSw g1 y2; first | (go_simp; done) | (go_simp; with_reducible rfl) | (trace_state; fail)
      try simp only [Act.put, List.setIfInBounds_toArray, List.set_cons_zero, List.set_cons_succ]
      refine wpAnyH_take (i := 9) (oi := { dst := some 53, op := Op.indexAddr 34 (Operand.tmp 51) (Operand.tmp 52), type := 0, pos := _, after := #[{ on := 7, ground := Ground.data }, { on := 8, ground := Ground.data }], guard := none }) (v := ?_) rfl (by kernel_rfl) (by kernel_rfl) (by kernel_rfl) (fun _ _ _ h => h) (Or.inl ⟨by rfl, ?_⟩) (by assumption) ?_
      rotate_left
      · intro wt hSw; (try dsimp only at hSw); have e2 := cellB hSw e2 z1; have f2 := cellB hSw f2 z2; have d0 := cellB hSw d0 y1; have d1 := cellB hSw d1 y1; have g0 := cellB hSw g0 y2; have g1 := cellB hSw g1 y2; first | (go_simp; done) | (go_simp; with_reducible rfl) | (trace_state; fail)
      try simp only [Act.put, List.setIfInBounds_toArray, List.set_cons_zero, List.set_cons_succ]
      refine wpAnyH_take (i := 10) (oi := { dst := some 54, op := Op.fieldAddr 72 (Operand.tmp 53) 1, type := 0, pos := _, after := #[{ on := 9, ground := Ground.data }], guard := none }) (v := ?_) rfl (by kernel_rfl) (by kernel_rfl) (by kernel_rfl) (fun _ _ _ h => h) (Or.inl ⟨by rfl, ?_⟩) (by assumption) ?_
      rotate_left
      · intro wt hSw; (try dsimp only at hSw); have e2 := cellB hSw e2 z1; have f2 := cellB hSw f2 z2; have d0 := cellB hSw d0 y1; have d1 := cellB hSw d1 y1; have g0 := cellB hSw g0 y2; have g1 := cellB hSw g1 y2; first | (go_simp; done) | (go_simp; with_reducible rfl) | (trace_state; fail)
      try simp only [Act.put, List.setIfInBounds_toArray, List.set_cons_zero, List.set_cons_succ]
      refine wpAnyH_take (i := 11) (oi := { dst := some 55, op := Op.load 3 (Operand.tmp 54), type := 3, pos := _, after := #[{ on := 10, ground := Ground.data }], guard := none }) (v := ?_) rfl (by kernel_rfl) (by kernel_rfl) (by kernel_rfl) (fun _ _ _ h => h) (Or.inl ⟨by rfl, ?_⟩) (by assumption) ?_
      rotate_left
      · intro wt hSw; (try dsimp only at hSw); have e2 := cellB hSw e2 z1; have f2 := cellB hSw f2 z2; have d0 := cellB hSw d0 y1; have d1 := cellB hSw d1 y1; have g0 := cellB hSw g0 y2; have g1 := cellB hSw g1 y2; first | (go_simp; done) | (go_simp; with_reducible rfl) | (trace_state; fail)
      try simp only [Act.put, List.setIfInBounds_toArray, List.set_cons_zero, List.set_cons_succ]
      refine wpAnyH_take (i := 12) (oi := { dst := some 56, op := Op.binOp BinOp.neq 3 (Operand.tmp 49) (Operand.tmp 55) 3, type := 4, pos := _, after := #[{ on := 5, ground := Ground.data }, { on := 11, ground := Ground.data }], guard := none }) (v := ?_) rfl (by kernel_rfl) (by kernel_rfl) (by kernel_rfl) (fun _ _ _ h => h) (Or.inl ⟨by rfl, ?_⟩) (by assumption) ?_
      rotate_left
      · intro wt hSw; (try dsimp only at hSw); have e2 := cellB hSw e2 z1; have f2 := cellB hSw f2 z2; have d0 := cellB hSw d0 y1; have d1 := cellB hSw d1 y1; have g0 := cellB hSw g0 y2; have g1 := cellB hSw g1 y2; first | (go_simp; done) | (go_simp; with_reducible rfl) | (trace_state; fail)
      try simp only [Act.put, List.setIfInBounds_toArray, List.set_cons_zero, List.set_cons_succ]
      refine wpAnyH_take (i := 13) (oi := { dst := some 57, op := Op.move (Operand.tmp 56), type := 4, pos := _, after := #[{ on := 12, ground := Ground.data }], guard := none }) (v := ?_) rfl (by kernel_rfl) (by kernel_rfl) (by kernel_rfl) (fun _ _ _ h => h) (Or.inl ⟨by rfl, ?_⟩) (by assumption) ?_
      rotate_left
      · intro wt hSw; (try dsimp only at hSw); have e2 := cellB hSw e2 z1; have f2 := cellB hSw f2 z2; have d0 := cellB hSw d0 y1; have d1 := cellB hSw d1 y1; have g0 := cellB hSw g0 y2; have g1 := cellB hSw g1 y2; first | (go_simp; done) | (go_simp; with_reducible rfl) | (trace_state; fail)
      try simp only [Act.put, List.setIfInBounds_toArray, List.set_cons_zero, List.set_cons_succ]
      refine wpAnyH_take (i := 14) (oi := { dst := some 58, op := Op.fieldAddr 37 (Operand.tmp 2) 2, type := 0, pos := _, after := #[{ on := 13, ground := Ground.guard }], guard := some (13, false) }) (v := ?_) rfl (by kernel_rfl) (by kernel_rfl) (by kernel_rfl) (fun _ _ _ h => h) (Or.inl ⟨by rfl, ?_⟩) (by assumption) ?_
      rotate_left
      · intro wt hSw; (try dsimp only at hSw); have e2 := cellB hSw e2 z1; have f2 := cellB hSw f2 z2; have d0 := cellB hSw d0 y1; have d1 := cellB hSw d1 y1; have g0 := cellB hSw g0 y2; have g1 := cellB hSw g1 y2; first | (go_simp; done) | (go_simp; with_reducible rfl) | (trace_state; fail)
      try simp only [Act.put, List.setIfInBounds_toArray, List.set_cons_zero, List.set_cons_succ]
      refine wpAnyH_take (i := 15) (oi := { dst := some 59, op := Op.load 34 (Operand.tmp 58), type := 34, pos := _, after := #[{ on := 14, ground := Ground.data }, { on := 13, ground := Ground.guard }], guard := some (13, false) }) (v := ?_) rfl (by kernel_rfl) (by kernel_rfl) (by kernel_rfl) (fun _ _ _ h => h) (Or.inl ⟨by rfl, ?_⟩) (by assumption) ?_
      rotate_left
      · intro wt hSw; (try dsimp only at hSw); have e2 := cellB hSw e2 z1; have f2 := cellB hSw f2 z2; have d0 := cellB hSw d0 y1; have d1 := cellB hSw d1 y1; have g0 := cellB hSw g0 y2; have g1 := cellB hSw g1 y2; first | (go_simp; done) | (go_simp; with_reducible rfl) | (trace_state; fail)
      try simp only [Act.put, List.setIfInBounds_toArray, List.set_cons_zero, List.set_cons_succ]
      refine wpAnyH_take (i := 16) (oi := { dst := some 60, op := Op.move (Operand.tmp 5), type := 3, pos := _, after := #[{ on := 13, ground := Ground.guard }], guard := some (13, false) }) (v := ?_) rfl (by kernel_rfl) (by kernel_rfl) (by kernel_rfl) (fun _ _ _ h => h) (Or.inl ⟨by rfl, ?_⟩) (by assumption) ?_
      rotate_left
      · intro wt hSw; (try dsimp only at hSw); have e2 := cellB hSw e2 z1; have f2 := cellB hSw f2 z2; have d0 := cellB hSw d0 y1; have d1 := cellB hSw d1 y1; have g0 := cellB hSw g0 y2; have g1 := cellB hSw g1 y2; first | (go_simp; done) | (go_simp; with_reducible rfl) | (trace_state; fail)
      try simp only [Act.put, List.setIfInBounds_toArray, List.set_cons_zero, List.set_cons_succ]
      refine wpAnyH_take (i := 17) (oi := { dst := some 61, op := Op.indexAddr 34 (Operand.tmp 59) (Operand.tmp 60), type := 0, pos := _, after := #[{ on := 15, ground := Ground.data }, { on := 16, ground := Ground.data }, { on := 13, ground := Ground.guard }], guard := some (13, false) }) (v := ?_) rfl (by kernel_rfl) (by kernel_rfl) (by kernel_rfl) (fun _ _ _ h => h) (Or.inl ⟨by rfl, ?_⟩) (by assumption) ?_
      rotate_left
      · intro wt hSw; (try dsimp only at hSw); have e2 := cellB hSw e2 z1; have f2 := cellB hSw f2 z2; have d0 := cellB hSw d0 y1; have d1 := cellB hSw d1 y1; have g0 := cellB hSw g0 y2; have g1 := cellB hSw g1 y2; first | (go_simp; done) | (go_simp; with_reducible rfl) | (trace_state; fail)
      try simp only [Act.put, List.setIfInBounds_toArray, List.set_cons_zero, List.set_cons_succ]
      refine wpAnyH_take (i := 18) (oi := { dst := some 62, op := Op.fieldAddr 72 (Operand.tmp 61) 0, type := 0, pos := _, after := #[{ on := 17, ground := Ground.data }, { on := 13, ground := Ground.guard }], guard := some (13, false) }) (v := ?_) rfl (by kernel_rfl) (by kernel_rfl) (by kernel_rfl) (fun _ _ _ h => h) (Or.inl ⟨by rfl, ?_⟩) (by assumption) ?_
      rotate_left
      · intro wt hSw; (try dsimp only at hSw); have e2 := cellB hSw e2 z1; have f2 := cellB hSw f2 z2; have d0 := cellB hSw d0 y1; have d1 := cellB hSw d1 y1; have g0 := cellB hSw g0 y2; have g1 := cellB hSw g1 y2; first | (go_simp; done) | (go_simp; with_reducible rfl) | (trace_state; fail)
      try simp only [Act.put, List.setIfInBounds_toArray, List.set_cons_zero, List.set_cons_succ]
      refine wpAnyH_take (i := 19) (oi := { dst := some 63, op := Op.load 35 (Operand.tmp 62), type := 35, pos := _, after := #[{ on := 18, ground := Ground.data }, { on := 13, ground := Ground.guard }], guard := some (13, false) }) (v := ?_) rfl (by kernel_rfl) (by kernel_rfl) (by kernel_rfl) (fun _ _ _ h => h) (Or.inl ⟨by rfl, ?_⟩) (by assumption) ?_
      rotate_left
      · intro wt hSw; (try dsimp only at hSw); have e2 := cellB hSw e2 z1; have f2 := cellB hSw f2 z2; have d0 := cellB hSw d0 y1; have d1 := cellB hSw d1 y1; have g0 := cellB hSw g0 y2; have g1 := cellB hSw g1 y2; first | (go_simp; done) | (go_simp; with_reducible rfl) | (trace_state; fail)
      try simp only [Act.put, List.setIfInBounds_toArray, List.set_cons_zero, List.set_cons_succ]
      refine wpAnyH_take (i := 20) (oi := { dst := some 64, op := Op.fieldAddr 37 (Operand.tmp 3) 2, type := 0, pos := _, after := #[{ on := 13, ground := Ground.guard }], guard := some (13, false) }) (v := ?_) rfl (by kernel_rfl) (by kernel_rfl) (by kernel_rfl) (fun _ _ _ h => h) (Or.inl ⟨by rfl, ?_⟩) (by assumption) ?_
      rotate_left
      · intro wt hSw; (try dsimp only at hSw); have e2 := cellB hSw e2 z1; have f2 := cellB hSw f2 z2; have d0 := cellB hSw d0 y1; have d1 := cellB hSw d1 y1; have g0 := cellB hSw g0 y2; have g1 := cellB hSw g1 y2; first | (go_simp; done) | (go_simp; with_reducible rfl) | (trace_state; fail)
      try simp only [Act.put, List.setIfInBounds_toArray, List.set_cons_zero, List.set_cons_succ]
      refine wpAnyH_take (i := 21) (oi := { dst := some 65, op := Op.load 34 (Operand.tmp 64), type := 34, pos := _, after := #[{ on := 20, ground := Ground.data }, { on := 13, ground := Ground.guard }], guard := some (13, false) }) (v := ?_) rfl (by kernel_rfl) (by kernel_rfl) (by kernel_rfl) (fun _ _ _ h => h) (Or.inl ⟨by rfl, ?_⟩) (by assumption) ?_
      rotate_left
      · intro wt hSw; (try dsimp only at hSw); have e2 := cellB hSw e2 z1; have f2 := cellB hSw f2 z2; have d0 := cellB hSw d0 y1; have d1 := cellB hSw d1 y1; have g0 := cellB hSw g0 y2; have g1 := cellB hSw g1 y2; first | (go_simp; done) | (go_simp; with_reducible rfl) | (trace_state; fail)
      try simp only [Act.put, List.setIfInBounds_toArray, List.set_cons_zero, List.set_cons_succ]
      refine wpAnyH_take (i := 22) (oi := { dst := some 66, op := Op.move (Operand.tmp 5), type := 3, pos := _, after := #[{ on := 13, ground := Ground.guard }], guard := some (13, false) }) (v := ?_) rfl (by kernel_rfl) (by kernel_rfl) (by kernel_rfl) (fun _ _ _ h => h) (Or.inl ⟨by rfl, ?_⟩) (by assumption) ?_
      rotate_left
      · intro wt hSw; (try dsimp only at hSw); have e2 := cellB hSw e2 z1; have f2 := cellB hSw f2 z2; have d0 := cellB hSw d0 y1; have d1 := cellB hSw d1 y1; have g0 := cellB hSw g0 y2; have g1 := cellB hSw g1 y2; first | (go_simp; done) | (go_simp; with_reducible rfl) | (trace_state; fail)
      try simp only [Act.put, List.setIfInBounds_toArray, List.set_cons_zero, List.set_cons_succ]
      refine wpAnyH_take (i := 23) (oi := { dst := some 67, op := Op.indexAddr 34 (Operand.tmp 65) (Operand.tmp 66), type := 0, pos := _, after := #[{ on := 21, ground := Ground.data }, { on := 22, ground := Ground.data }, { on := 13, ground := Ground.guard }], guard := some (13, false) }) (v := ?_) rfl (by kernel_rfl) (by kernel_rfl) (by kernel_rfl) (fun _ _ _ h => h) (Or.inl ⟨by rfl, ?_⟩) (by assumption) ?_
      rotate_left
      · intro wt hSw; (try dsimp only at hSw); have e2 := cellB hSw e2 z1; have f2 := cellB hSw f2 z2; have d0 := cellB hSw d0 y1; have d1 := cellB hSw d1 y1; have g0 := cellB hSw g0 y2; have g1 := cellB hSw g1 y2; first | (go_simp; done) | (go_simp; with_reducible rfl) | (trace_state; fail)
      try simp only [Act.put, List.setIfInBounds_toArray, List.set_cons_zero, List.set_cons_succ]
      refine wpAnyH_take (i := 24) (oi := { dst := some 68, op := Op.fieldAddr 72 (Operand.tmp 67) 0, type := 0, pos := _, after := #[{ on := 23, ground := Ground.data }, { on := 13, ground := Ground.guard }], guard := some (13, false) }) (v := ?_) rfl (by kernel_rfl) (by kernel_rfl) (by kernel_rfl) (fun _ _ _ h => h) (Or.inl ⟨by rfl, ?_⟩) (by assumption) ?_
      rotate_left
      · intro wt hSw; (try dsimp only at hSw); have e2 := cellB hSw e2 z1; have f2 := cellB hSw f2 z2; have d0 := cellB hSw d0 y1; have d1 := cellB hSw d1 y1; have g0 := cellB hSw g0 y2; have g1 := cellB hSw g1 y2; first | (go_simp; done) | (go_simp; with_reducible rfl) | (trace_state; fail)
      try simp only [Act.put, List.setIfInBounds_toArray, List.set_cons_zero, List.set_cons_succ]
      refine wpAnyH_take (i := 25) (oi := { dst := some 69, op := Op.load 35 (Operand.tmp 68), type := 35, pos := _, after := #[{ on := 24, ground := Ground.data }, { on := 13, ground := Ground.guard }], guard := some (13, false) }) (v := ?_) rfl (by kernel_rfl) (by kernel_rfl) (by kernel_rfl) (fun _ _ _ h => h) (Or.inl ⟨by rfl, ?_⟩) (by assumption) ?_
      rotate_left
      · intro wt hSw; (try dsimp only at hSw); have e2 := cellB hSw e2 z1; have f2 := cellB hSw f2 z2; have d0 := cellB hSw d0 y1; have d1 := cellB hSw d1 y1; have g0 := cellB hSw g0 y2; have g1 := cellB hSw g1 y2; first | (go_simp; done) | (go_simp; with_reducible rfl) | (trace_state; fail)
      try simp only [Act.put, List.setIfInBounds_toArray, List.set_cons_zero, List.set_cons_succ]
      refine wpAnyH_ready (rs := [26]) (by kernel_rfl) (by simp) ?_
      refine AllReadyH.cons (o := { dst := some 70, op := Op.call { callee := Callee.value (Operand.func 37), args := #[Operand.tmp 63, Operand.tmp 69], argTypes := #[35, 35] }, type := 4, pos := _, after := #[{ on := 19, ground := Ground.data }, { on := 25, ground := Ground.data }, { on := 13, ground := Ground.chain }, { on := 13, ground := Ground.guard }], guard := some (13, false) }) rfl (fun K hK => ?_) AllReadyH.nil
      go_simp
      refine (HIn.out _ hHeld).mono ?_; rintro e v1 ⟨rfl, m, rfl⟩; have hHeld := hHeld.trans ((Below_drewN _ _ m).mono hHeld.size)
      go_wp2_with fail
      refine hK.out _ _ ?_ (fun hHeld => ?_)
      · (try dsimp only); first | assumption | exact Below.alloc hHeld hHeld.size _ | exact (Below.refl _ _).drew | exact Below.drew (Below.refl _ _) | exact Below_drewN _ _ _ | exact Below.refl _ _ | (trace_state; fail)
      clear hK K
      try simp only [Act.put, List.setIfInBounds_toArray, List.set_cons_zero, List.set_cons_succ]
      refine wpAnyH_take (i := 27) (oi := { dst := some 71, op := Op.unOp UnOp.not 4 (Operand.tmp 70), type := 4, pos := _, after := #[{ on := 26, ground := Ground.data }, { on := 13, ground := Ground.guard }], guard := some (13, false) }) (v := ?_) rfl (by kernel_rfl) (by kernel_rfl) (by kernel_rfl) (fun _ _ _ h => h) (Or.inl ⟨by rfl, ?_⟩) (by assumption) ?_
      rotate_left
      · intro wt hSw; (try dsimp only at hSw); have e2 := cellB hSw e2 z1; have f2 := cellB hSw f2 z2; have d0 := cellB hSw d0 y1; have d1 := cellB hSw d1 y1; have g0 := cellB hSw g0 y2; have g1 := cellB hSw g1 y2; first | (go_simp; done) | (go_simp; with_reducible rfl) | (trace_state; fail)
      try simp only [Act.put, List.setIfInBounds_toArray, List.set_cons_zero, List.set_cons_succ]
      refine wpAnyH_take (i := 28) (oi := { dst := some 72, op := Op.pick (Operand.tmp 57) (Operand.const (Value.bool true)) (Operand.tmp 71), type := 4, pos := _, after := #[{ on := 13, ground := Ground.data }, { on := 27, ground := Ground.data }], guard := none }) (v := ?_) rfl (by kernel_rfl) (by kernel_rfl) (by kernel_rfl) (fun _ _ _ h => h) (Or.inl ⟨by rfl, ?_⟩) (by assumption) ?_
      rotate_left
      · intro wt hSw; (try dsimp only at hSw); have e2 := cellB hSw e2 z1; have f2 := cellB hSw f2 z2; have d0 := cellB hSw d0 y1; have d1 := cellB hSw d1 y1; have g0 := cellB hSw g0 y2; have g1 := cellB hSw g1 y2; first | (go_simp; done) | (go_simp; with_reducible rfl) | (trace_state; fail)
      try simp only [Act.put, List.setIfInBounds_toArray, List.set_cons_zero, List.set_cons_succ]
      refine wpAnyH_done (by kernel_rfl) ?_ _
      have HBn := Lib.hid (HBr.out.trans (hHeld.mono HBr.out.size))
      clear hHeld
      go_wp2_with fail
      go_roundw
      case rel => exact ⟨k + 1, by omega, by simp, HBn⟩
      case measure => first | (simp [intOf]; done) | (simp [intOf]; omega)
    · obtain rfl : k = n := by omega
      have qk : ((k : Int) < (k : Int)) = False := eq_false (by omega)
      go_wp2_with fail
      go_ret
      exact ⟨rfl, HBw.out⟩
end Go.Proofs.Ytogmbfhefblbjaa
