/- Layer 23: the walk of StateFits. -/
import Derived.Test.YthanmbfelihkfaaStNew
import Derived.Test.YthanmbfelihkfaaStNewR
import Derived.Test.YthanmbfelihkfaaTablesR
import Derived.Test.YthanmbfelihkfaaStFitR
import Derived.Test.YthanmbfelihkfaaFewP
import Derived.Test.YthanmbfelihkfaaStRefSame
import Derived.Test.YthanmbfelihkfaaLawTwentythree
import Derived.Test.YthanmbfelihkfaaBoxed
namespace Go.Proofs.Ythanmbfelihkfaa
open Go.RowKit
set_option linter.unusedSimpArgs false
set_option linter.unusedVariables false
theorem new_short {V : List Vr} {nb : Nat} (hV : V.length ≤ 70) (hnb : nb ≤ 40) : shortS (newS V nb) = true := by
  refine decide_eq_true ?_
  unfold newS
  refine ⟨by rw [List.length_map]; omega, by rw [List.length_replicate]; omega, fun l hl => ?_⟩
  obtain ⟨x, _, rfl⟩ := List.mem_map.1 hl
  unfold newRow rowN
  rw [List.length_replicate]
  omega
theorem new_rows {V : List Vr} (h : V.all goodV = true) : fitRows V (V.map newRow) = true := by
  induction V with
  | nil => rfl
  | cons x V ih =>
    simp only [List.all_cons, Bool.and_eq_true] at h
    have hg := h.1
    unfold goodV at hg
    simp only [Bool.and_eq_true, decide_eq_true_eq] at hg
    obtain ⟨_, h2, h3⟩ := hg
    show (fitRow x (newRow x) && fitRows V (V.map newRow)) = true
    rw [ih h.2, Bool.and_true]
    unfold fitRow
    have hl : ((newRow x).length : Int) = x.n := by unfold newRow rowN; rw [List.length_replicate]; omega
    rw [decide_eq_true hl, Bool.true_and, List.all_eq_true]
    intro z hz
    obtain rfl := (List.mem_replicate.1 hz).2
    exact h2
theorem new_fits {V : List Vr} {B : List Bk} (h : tablesE V B = 0) : fitS V B.length (newS V B.length) = true := by
  unfold tablesE at h
  split at h
  · cases h
  · split at h
    · rename_i h2
      simp only [Bool.and_eq_true] at h2
      refine fitS_yes ?_ (new_rows h2.1)
      unfold headS newS
      simp
    · cases h
theorem tables_few (V : List Vr) (B : List Bk) : tablesE V B = 0 ∨ tablesE V B = 5 ∨ tablesE V B = 10 := by
  unfold tablesE
  split
  · exact Or.inr (Or.inl rfl)
  · split
    · exact Or.inl rfl
    · exact Or.inr (Or.inr rfl)
set_option maxHeartbeats 8000000 in
theorem stateFits_walk (pc pv pb pu : Value) (p : Pr) (v b : Value) (s : St) (w : World) (hp : PrAt w pc pv pb pu p) (h : StAt w v b s) :
    Calls Try.prog 3 #[.agg #[pc, pv, pb, pu], .agg #[v, b, .int .i64 s.now, .int .i64 s.fault]] w fun e w' => e = .returned (.bool true) ∧ Below w.heap.size w w' := by
  have cp := @cell_past
  have hAw := law23_awake
  have hS1 := Lib.hid (fun W (hb : Below w.heap.size w W) => law23_Short v b s W (h.below hb))
  have hF := Lib.hid (fun W (hb : Below w.heap.size w W) => law16_Few pc pv pb pu p W (hp.below hb))
  obtain ⟨W0, hW0⟩ : ∃ W0, W0 = (w.alloc (.cells #[pc, pv, pb, pu] 27)).alloc (.cells #[v, b, .int .i64 s.now, .int .i64 s.fault] 31) := ⟨_, rfl⟩
  have hBW0 : Below w.heap.size w W0 := by rw [hW0]; exact by (repeat' (first | (with_reducible exact Below.refl _ _) | (with_reducible assumption) | (with_reducible refine below_drewN ?_ _) | (with_reducible refine Below.alloc ?_ ?_ _) | (with_reducible refine Below.drew ?_) | (with_reducible refine Below.setCell ?_ ?_ _) | go_size))
  obtain ⟨k1, k2, z2, _⟩ := boxed2 w [pc, pv, pb, pu] [v, b, .int .i64 s.now, .int .i64 s.fault] 27 31 (W' := W0) (by rw [hW0]; exact Below.refl _ _)
  have K1 := Lib.hid k1
  have K2 := Lib.hid k2
  have z1 : w.heap.size < W0.heap.size := by omega
  have HW0 := Lib.hid hW0
  have HB0 := Lib.hid hBW0
  clear hW0 k1 k2 hBW0
  cases hfp : fewP p
  · rw [hfp] at hF
    go_enter Try.func3, Try.ntmps3
    go_wp2_with fail
    refine (hF.out _ (by (repeat' (first | (with_reducible exact Below.refl _ _) | (with_reducible assumption) | (with_reducible refine below_drewN ?_ _) | (with_reducible refine Below.alloc ?_ ?_ _) | (with_reducible refine Below.drew ?_) | (with_reducible refine Below.setCell ?_ ?_ _) | go_size)))).mono ?_; rintro e A1 ⟨rfl, hb1⟩
    rw [← HW0.out] at hb1
    go_wp2_with fail
    refine (hAw _).mono ?_; rintro e A3 ⟨rfl, hb3⟩
    have hb3 := hb1.trans (hb3.mono hb1.size)
    go_wp2_with fail
    go_ret
    exact ⟨rfl, HB0.out.trans (hb3.mono HB0.out.size)⟩
  rw [hfp] at hF
  cases hs1 : shortS s
  · rw [hs1] at hS1
    go_enter Try.func3, Try.ntmps3
    go_wp2_with fail
    refine (hF.out _ (by (repeat' (first | (with_reducible exact Below.refl _ _) | (with_reducible assumption) | (with_reducible refine below_drewN ?_ _) | (with_reducible refine Below.alloc ?_ ?_ _) | (with_reducible refine Below.drew ?_) | (with_reducible refine Below.setCell ?_ ?_ _) | go_size)))).mono ?_; rintro e A1 ⟨rfl, hb1⟩
    rw [← HW0.out] at hb1
    have kk := K2.out.keep z2 hb1
    have e0 := kk 0 _ rfl
    have e1 := kk 1 _ rfl
    have e2 := kk 2 _ rfl
    have e3 := kk 3 _ rfl
    clear kk
    go_wp2_with fail
    refine (hS1.out _ (HB0.out.trans (hb1.mono HB0.out.size))).mono ?_; rintro e A2 ⟨rfl, hb2⟩
    have hb2 := hb1.trans (hb2.mono hb1.size)
    go_wp2_with fail
    refine (hAw _).mono ?_; rintro e A3 ⟨rfl, hb3⟩
    have hb3 := hb2.trans (hb3.mono hb2.size)
    go_wp2_with fail
    go_ret
    exact ⟨rfl, HB0.out.trans (hb3.mono HB0.out.size)⟩
  rw [hs1] at hS1
  obtain ⟨⟨_, hL, hB, _⟩, _⟩ : (p.consts.length ≤ 60 ∧ p.vars.length ≤ 70 ∧ p.blocks.length ≤ 40 ∧ p.units.length ≤ 10) ∧ (∀ x ∈ p.vars, x.name.length ≤ 300) ∧ (∀ x ∈ p.blocks, x.name.length ≤ 300) ∧ ∀ x ∈ p.units, fewU x = true := of_decide_eq_true hfp
  have hpb : ∃ a c, pb = .slice a p.blocks.length c := row_get hp.bs
  obtain ⟨t, ht⟩ : ∃ t, newS p.vars p.blocks.length = t := ⟨_, rfl⟩
  have hn : t.now = 0 ∧ t.fault = 0 := by rw [← ht]; exact ⟨rfl, rfl⟩
  have hts := new_short (V := p.vars) (nb := p.blocks.length) hL hB
  rw [ht] at hts
  have HN := Lib.hid (fun W (hb : Below w.heap.size w W) => state_New pv pb p.vars p.blocks.length W (hp.vs.below varR_stable hb) hpb hL hB)
  have HNR := Lib.hid (fun W (hb : Below w.heap.size w W) => ref23_New pv pb p.vars p.blocks.length W (hp.vs.below varR_stable hb) hpb hL hB)
  have HF1 := Lib.hid (fun W (hb : Below w.heap.size w W) => state_Fits pv pb v b p.vars p.blocks.length s W (hp.vs.below varR_stable hb) hpb (h.below hb) hs1 hL hB)
  have HF2 := Lib.hid (fun W (hb : Below w.heap.size w W) => ref23_Fits pv pb v b p.vars p.blocks.length s W (hp.vs.below varR_stable hb) hpb (h.below hb) hs1 hL hB)
  have HFN := Lib.hid (fun W (hb : Below w.heap.size w W) {v7 b7 : Value} (h7 : StAt W v7 b7 t) => state_Fits pv pb v7 b7 p.vars p.blocks.length t W (hp.vs.below varR_stable hb) hpb h7 hts hL hB)
  have HTab := Lib.hid (fun W (hb : Below w.heap.size w W) => ref17_Tables pv pb p.vars p.blocks W (hp.vs.below varR_stable hb) (hp.bs.below blkR_stable hb))
  have HSame := Lib.hid (fun (W : World) (v b v2 b2 : Value) (h1 : StAt W v b t) (h2 : StAt W v2 b2 t) => ref23_Same_eq v b v2 b2 t W h1 h2)
  have HFit := Lib.hid (fun g => ht ▸ new_fits (V := p.vars) (B := p.blocks) g)
  rw [ht] at HN HNR
  rw [hn.1, hn.2] at HFN HSame
  generalize fitS p.vars p.blocks.length s = FS at *
  clear hn ht hts
  go_enter Try.func3, Try.ntmps3
  go_wp2_with fail
  refine (hF.out _ (by (repeat' (first | (with_reducible exact Below.refl _ _) | (with_reducible assumption) | (with_reducible refine below_drewN ?_ _) | (with_reducible refine Below.alloc ?_ ?_ _) | (with_reducible refine Below.drew ?_) | (with_reducible refine Below.setCell ?_ ?_ _) | go_size)))).mono ?_; rintro e A1 ⟨rfl, hb1⟩
  rw [← HW0.out] at hb1
  have kk := K2.out.keep z2 hb1
  have e0 := kk 0 _ rfl
  have e1 := kk 1 _ rfl
  have e2 := kk 2 _ rfl
  have e3 := kk 3 _ rfl
  clear kk
  go_wp2_with fail
  refine (hS1.out _ (HB0.out.trans (hb1.mono HB0.out.size))).mono ?_; rintro e A2 ⟨rfl, hb2⟩
  have hb2 := hb1.trans (hb2.mono hb1.size)
  clear e0 e1 e2 e3
  have e1 := K1.out.keep z1 hb2 1 _ rfl
  have e2 := K1.out.keep z1 hb2 2 _ rfl
  go_wp2_with fail
  refine (HN.out _ (HB0.out.trans (hb2.mono HB0.out.size))).mono ?_; rintro e A3 ⟨v7, b7, U7, rfl, hst7, hb3⟩
  have hst7 := hst7.st
  have hb3 := hb2.trans (hb3.mono hb2.size)
  have HC7 := Lib.hid (C4.new A3 v7 b7 (.int .i64 0) (.int .i64 0) 31 (Below.refl _ _))
  have hst7 := Lib.hid (hst7.below (show Below A3.heap.size A3 (A3.alloc (.cells #[v7, b7, .int .i64 0, .int .i64 0] 31)) by (repeat' (first | (with_reducible exact Below.refl _ _) | (with_reducible assumption) | (with_reducible refine below_drewN ?_ _) | (with_reducible refine Below.alloc ?_ ?_ _) | (with_reducible refine Below.drew ?_) | (with_reducible refine Below.setCell ?_ ?_ _) | go_size))))
  have hb4 := hb3.trans ((show Below A3.heap.size A3 (A3.alloc (.cells #[v7, b7, .int .i64 0, .int .i64 0] 31)) by (repeat' (first | (with_reducible exact Below.refl _ _) | (with_reducible assumption) | (with_reducible refine below_drewN ?_ _) | (with_reducible refine Below.alloc ?_ ?_ _) | (with_reducible refine Below.drew ?_) | (with_reducible refine Below.setCell ?_ ?_ _) | go_size))).mono hb3.size)
  obtain ⟨W7, hW7⟩ : ∃ W7, W7 = (A3.alloc (.cells #[v7, b7, .int .i64 0, .int .i64 0] 31)) := ⟨_, rfl⟩
  rw [← hW7] at HC7 hst7 hb4
  have ym : A3.heap.size < W7.heap.size := by rw [hW7]; simp
  have HW7 := Lib.hid hW7
  have HB4 := Lib.hid hb4
  have HB7 := Lib.hid (HB0.out.trans (hb4.mono HB0.out.size))
  obtain ⟨sv7, cv7, rfl⟩ := row_get hst7.out.vs
  obtain ⟨sb7, cb7, rfl⟩ := row_get hst7.out.bs
  have kk := K2.out.keep z2 hb4
  have s0 := kk 0 _ rfl
  have s1 := kk 1 _ rfl
  have s2 := kk 2 _ rfl
  have s3 := kk 3 _ rfl
  have p1 := K1.out.keep z1 hb4 1 _ rfl
  have p2 := K1.out.keep z1 hb4 2 _ rfl
  have yp : w.heap.size < W7.heap.size := Nat.lt_of_lt_of_le z1 hb4.size
  have ys : w.heap.size + 1 < W7.heap.size := Nat.lt_of_lt_of_le z2 hb4.size
  obtain ⟨m0, m1, m2, m3⟩ := HC7.out
  clear e1 e2 hb1 hb2 hb3 hb4 hW7 kk
  go_wp2_with fail
  rw [← HW7.out]
  refine wp_region_held_drew (S := (fun w' => Below W7.heap.size W7 w')) (by kernel_rfl) ?_ (fun hHeld => ?_)
  · (try dsimp only); first | assumption | exact Below.alloc hHeld hHeld.size _ | exact (Below.refl _ _).drew | exact Below.drew (Below.refl _ _) | exact Below_drewN _ _ _ | exact Below.refl _ _ | (trace_state; fail)
  refine wpAnyH_take (i := 0) (oi := { dst := some 20, op := Op.load 31 (Operand.tmp 5), type := 31, pos := _, after := #[], guard := none }) (v := ?_) rfl (by kernel_rfl) (by kernel_rfl) (by kernel_rfl) (fun _ _ _ h => h) (Or.inl ⟨by rfl, ?_⟩) (by assumption) ?_
  rotate_left
  · intro wt hSw; (try dsimp only at hSw); have p1 := cellB hSw p1 yp; have p2 := cellB hSw p2 yp; have s0 := cellB hSw s0 ys; have s1 := cellB hSw s1 ys; have s2 := cellB hSw s2 ys; have s3 := cellB hSw s3 ys; have m0 := cellB hSw m0 ym; have m1 := cellB hSw m1 ym; have m2 := cellB hSw m2 ym; have m3 := cellB hSw m3 ym; first | (go_simp; done) | (go_simp; with_reducible rfl) | (trace_state; fail)
  try simp only [Act.put, List.setIfInBounds_toArray, List.set_cons_zero, List.set_cons_succ]
  refine wpAnyH_take (i := 1) (oi := { dst := some 21, op := Op.fieldAddr 27 (Operand.tmp 2) 1, type := 0, pos := _, after := #[], guard := none }) (v := ?_) rfl (by kernel_rfl) (by kernel_rfl) (by kernel_rfl) (fun _ _ _ h => h) (Or.inl ⟨by rfl, ?_⟩) (by assumption) ?_
  rotate_left
  · intro wt hSw; (try dsimp only at hSw); have p1 := cellB hSw p1 yp; have p2 := cellB hSw p2 yp; have s0 := cellB hSw s0 ys; have s1 := cellB hSw s1 ys; have s2 := cellB hSw s2 ys; have s3 := cellB hSw s3 ys; have m0 := cellB hSw m0 ym; have m1 := cellB hSw m1 ym; have m2 := cellB hSw m2 ym; have m3 := cellB hSw m3 ym; first | (go_simp; done) | (go_simp; with_reducible rfl) | (trace_state; fail)
  try simp only [Act.put, List.setIfInBounds_toArray, List.set_cons_zero, List.set_cons_succ]
  refine wpAnyH_take (i := 2) (oi := { dst := some 22, op := Op.load 23 (Operand.tmp 21), type := 23, pos := _, after := #[{ on := 1, ground := Ground.data }], guard := none }) (v := ?_) rfl (by kernel_rfl) (by kernel_rfl) (by kernel_rfl) (fun _ _ _ h => h) (Or.inl ⟨by rfl, ?_⟩) (by assumption) ?_
  rotate_left
  · intro wt hSw; (try dsimp only at hSw); have p1 := cellB hSw p1 yp; have p2 := cellB hSw p2 yp; have s0 := cellB hSw s0 ys; have s1 := cellB hSw s1 ys; have s2 := cellB hSw s2 ys; have s3 := cellB hSw s3 ys; have m0 := cellB hSw m0 ym; have m1 := cellB hSw m1 ym; have m2 := cellB hSw m2 ym; have m3 := cellB hSw m3 ym; first | (go_simp; done) | (go_simp; with_reducible rfl) | (trace_state; fail)
  try simp only [Act.put, List.setIfInBounds_toArray, List.set_cons_zero, List.set_cons_succ]
  refine wpAnyH_take (i := 3) (oi := { dst := some 23, op := Op.fieldAddr 27 (Operand.tmp 2) 2, type := 0, pos := _, after := #[], guard := none }) (v := ?_) rfl (by kernel_rfl) (by kernel_rfl) (by kernel_rfl) (fun _ _ _ h => h) (Or.inl ⟨by rfl, ?_⟩) (by assumption) ?_
  rotate_left
  · intro wt hSw; (try dsimp only at hSw); have p1 := cellB hSw p1 yp; have p2 := cellB hSw p2 yp; have s0 := cellB hSw s0 ys; have s1 := cellB hSw s1 ys; have s2 := cellB hSw s2 ys; have s3 := cellB hSw s3 ys; have m0 := cellB hSw m0 ym; have m1 := cellB hSw m1 ym; have m2 := cellB hSw m2 ym; have m3 := cellB hSw m3 ym; first | (go_simp; done) | (go_simp; with_reducible rfl) | (trace_state; fail)
  try simp only [Act.put, List.setIfInBounds_toArray, List.set_cons_zero, List.set_cons_succ]
  refine wpAnyH_take (i := 4) (oi := { dst := some 24, op := Op.load 24 (Operand.tmp 23), type := 24, pos := _, after := #[{ on := 3, ground := Ground.data }], guard := none }) (v := ?_) rfl (by kernel_rfl) (by kernel_rfl) (by kernel_rfl) (fun _ _ _ h => h) (Or.inl ⟨by rfl, ?_⟩) (by assumption) ?_
  rotate_left
  · intro wt hSw; (try dsimp only at hSw); have p1 := cellB hSw p1 yp; have p2 := cellB hSw p2 yp; have s0 := cellB hSw s0 ys; have s1 := cellB hSw s1 ys; have s2 := cellB hSw s2 ys; have s3 := cellB hSw s3 ys; have m0 := cellB hSw m0 ym; have m1 := cellB hSw m1 ym; have m2 := cellB hSw m2 ym; have m3 := cellB hSw m3 ym; first | (go_simp; done) | (go_simp; with_reducible rfl) | (trace_state; fail)
  try simp only [Act.put, List.setIfInBounds_toArray, List.set_cons_zero, List.set_cons_succ]
  refine wpAnyH_ready (rs := [5]) (by kernel_rfl) (by simp) ?_
  refine AllReadyH.cons (o := { dst := some 25, op := Op.call { callee := Callee.value (Operand.func 11), args := #[Operand.tmp 22, Operand.tmp 24], argTypes := #[23, 24] }, type := 31, pos := _, after := #[{ on := 2, ground := Ground.data }, { on := 4, ground := Ground.data }], guard := none }) rfl (fun K hK => ?_) AllReadyH.nil
  go_simp
  refine (HNR.out _ (HB7.out.trans (hHeld.mono HB7.out.size))).mono ?_; rintro e w1 ⟨v4, b4, U4, rfl, hst4, hb⟩; have hHeld := hHeld.trans (hb.mono hHeld.size); have hst4 := Lib.hid hst4.st; clear hb
  go_wp2_with fail
  refine hK.out _ _ ?_ (fun hHeld => ?_)
  · (try dsimp only); first | assumption | exact Below.alloc hHeld hHeld.size _ | exact (Below.refl _ _).drew | exact Below.drew (Below.refl _ _) | exact Below_drewN _ _ _ | exact Below.refl _ _ | (trace_state; fail)
  clear hK K
  try simp only [Act.put, List.setIfInBounds_toArray, List.set_cons_zero, List.set_cons_succ]
  refine wpAnyH_ready (rs := [6]) (by kernel_rfl) (by simp) ?_
  refine AllReadyH.cons (o := { dst := some 26, op := Op.call { callee := Callee.value (Operand.func 10), args := #[Operand.tmp 20, Operand.tmp 25], argTypes := #[31, 31] }, type := 4, pos := _, after := #[{ on := 0, ground := Ground.data }, { on := 5, ground := Ground.data }, { on := 5, ground := Ground.chain }], guard := none }) rfl (fun K hK => ?_) AllReadyH.nil
  go_simp
  refine (HSame.out _ _ _ _ _ (hst7.out.below hHeld) hst4.out).mono ?_; rintro e w2 ⟨rfl, hb⟩; have hHeld := hHeld.trans (hb.mono hHeld.size); clear hb
  go_wp2_with fail
  refine hK.out _ _ ?_ (fun hHeld => ?_)
  · (try dsimp only); first | assumption | exact Below.alloc hHeld hHeld.size _ | exact (Below.refl _ _).drew | exact Below.drew (Below.refl _ _) | exact Below_drewN _ _ _ | exact Below.refl _ _ | (trace_state; fail)
  clear hK K
  try simp only [Act.put, List.setIfInBounds_toArray, List.set_cons_zero, List.set_cons_succ]
  refine wpAnyH_take (i := 7) (oi := { dst := some 27, op := Op.unOp UnOp.not 4 (Operand.tmp 26), type := 4, pos := _, after := #[{ on := 6, ground := Ground.data }], guard := none }) (v := ?_) rfl (by kernel_rfl) (by kernel_rfl) (by kernel_rfl) (fun _ _ _ h => h) (Or.inl ⟨by rfl, ?_⟩) (by assumption) ?_
  rotate_left
  · intro wt hSw; (try dsimp only at hSw); have p1 := cellB hSw p1 yp; have p2 := cellB hSw p2 yp; have s0 := cellB hSw s0 ys; have s1 := cellB hSw s1 ys; have s2 := cellB hSw s2 ys; have s3 := cellB hSw s3 ys; have m0 := cellB hSw m0 ym; have m1 := cellB hSw m1 ym; have m2 := cellB hSw m2 ym; have m3 := cellB hSw m3 ym; first | (go_simp; done) | (go_simp; with_reducible rfl) | (trace_state; fail)
  try simp only [Act.put, List.setIfInBounds_toArray, List.set_cons_zero, List.set_cons_succ]
  refine wpAnyH_take (i := 8) (oi := { dst := some 28, op := Op.move (Operand.tmp 27), type := 4, pos := _, after := #[{ on := 7, ground := Ground.data }, { on := 6, ground := Ground.chain }], guard := none }) (v := ?_) rfl (by kernel_rfl) (by kernel_rfl) (by kernel_rfl) (fun _ _ _ h => h) (Or.inl ⟨by rfl, ?_⟩) (by assumption) ?_
  rotate_left
  · intro wt hSw; (try dsimp only at hSw); have p1 := cellB hSw p1 yp; have p2 := cellB hSw p2 yp; have s0 := cellB hSw s0 ys; have s1 := cellB hSw s1 ys; have s2 := cellB hSw s2 ys; have s3 := cellB hSw s3 ys; have m0 := cellB hSw m0 ym; have m1 := cellB hSw m1 ym; have m2 := cellB hSw m2 ym; have m3 := cellB hSw m3 ym; first | (go_simp; done) | (go_simp; with_reducible rfl) | (trace_state; fail)
  try simp only [Act.put, List.setIfInBounds_toArray, List.set_cons_zero, List.set_cons_succ]
  refine wpAnyH_take (i := 9) (oi := { dst := some 29, op := Op.fieldAddr 27 (Operand.tmp 2) 1, type := 0, pos := _, after := #[{ on := 8, ground := Ground.guard }], guard := some (8, false) }) (v := ?_) rfl (by kernel_rfl) (by kernel_rfl) (by kernel_rfl) (fun _ _ _ h => h) (Or.inl ⟨by rfl, ?_⟩) (by assumption) ?_
  rotate_left
  · intro wt hSw; (try dsimp only at hSw); have p1 := cellB hSw p1 yp; have p2 := cellB hSw p2 yp; have s0 := cellB hSw s0 ys; have s1 := cellB hSw s1 ys; have s2 := cellB hSw s2 ys; have s3 := cellB hSw s3 ys; have m0 := cellB hSw m0 ym; have m1 := cellB hSw m1 ym; have m2 := cellB hSw m2 ym; have m3 := cellB hSw m3 ym; first | (go_simp; done) | (go_simp; with_reducible rfl) | (trace_state; fail)
  try simp only [Act.put, List.setIfInBounds_toArray, List.set_cons_zero, List.set_cons_succ]
  refine wpAnyH_take (i := 10) (oi := { dst := some 30, op := Op.load 23 (Operand.tmp 29), type := 23, pos := _, after := #[{ on := 9, ground := Ground.data }, { on := 8, ground := Ground.guard }], guard := some (8, false) }) (v := ?_) rfl (by kernel_rfl) (by kernel_rfl) (by kernel_rfl) (fun _ _ _ h => h) (Or.inl ⟨by rfl, ?_⟩) (by assumption) ?_
  rotate_left
  · intro wt hSw; (try dsimp only at hSw); have p1 := cellB hSw p1 yp; have p2 := cellB hSw p2 yp; have s0 := cellB hSw s0 ys; have s1 := cellB hSw s1 ys; have s2 := cellB hSw s2 ys; have s3 := cellB hSw s3 ys; have m0 := cellB hSw m0 ym; have m1 := cellB hSw m1 ym; have m2 := cellB hSw m2 ym; have m3 := cellB hSw m3 ym; first | (go_simp; done) | (go_simp; with_reducible rfl) | (trace_state; fail)
  try simp only [Act.put, List.setIfInBounds_toArray, List.set_cons_zero, List.set_cons_succ]
  refine wpAnyH_take (i := 11) (oi := { dst := some 31, op := Op.fieldAddr 27 (Operand.tmp 2) 2, type := 0, pos := _, after := #[{ on := 8, ground := Ground.guard }], guard := some (8, false) }) (v := ?_) rfl (by kernel_rfl) (by kernel_rfl) (by kernel_rfl) (fun _ _ _ h => h) (Or.inl ⟨by rfl, ?_⟩) (by assumption) ?_
  rotate_left
  · intro wt hSw; (try dsimp only at hSw); have p1 := cellB hSw p1 yp; have p2 := cellB hSw p2 yp; have s0 := cellB hSw s0 ys; have s1 := cellB hSw s1 ys; have s2 := cellB hSw s2 ys; have s3 := cellB hSw s3 ys; have m0 := cellB hSw m0 ym; have m1 := cellB hSw m1 ym; have m2 := cellB hSw m2 ym; have m3 := cellB hSw m3 ym; first | (go_simp; done) | (go_simp; with_reducible rfl) | (trace_state; fail)
  try simp only [Act.put, List.setIfInBounds_toArray, List.set_cons_zero, List.set_cons_succ]
  refine wpAnyH_take (i := 12) (oi := { dst := some 32, op := Op.load 24 (Operand.tmp 31), type := 24, pos := _, after := #[{ on := 11, ground := Ground.data }, { on := 8, ground := Ground.guard }], guard := some (8, false) }) (v := ?_) rfl (by kernel_rfl) (by kernel_rfl) (by kernel_rfl) (fun _ _ _ h => h) (Or.inl ⟨by rfl, ?_⟩) (by assumption) ?_
  rotate_left
  · intro wt hSw; (try dsimp only at hSw); have p1 := cellB hSw p1 yp; have p2 := cellB hSw p2 yp; have s0 := cellB hSw s0 ys; have s1 := cellB hSw s1 ys; have s2 := cellB hSw s2 ys; have s3 := cellB hSw s3 ys; have m0 := cellB hSw m0 ym; have m1 := cellB hSw m1 ym; have m2 := cellB hSw m2 ym; have m3 := cellB hSw m3 ym; first | (go_simp; done) | (go_simp; with_reducible rfl) | (trace_state; fail)
  try simp only [Act.put, List.setIfInBounds_toArray, List.set_cons_zero, List.set_cons_succ]
  refine wpAnyH_take (i := 13) (oi := { dst := some 33, op := Op.load 31 (Operand.tmp 3), type := 31, pos := _, after := #[{ on := 8, ground := Ground.guard }], guard := some (8, false) }) (v := ?_) rfl (by kernel_rfl) (by kernel_rfl) (by kernel_rfl) (fun _ _ _ h => h) (Or.inl ⟨by rfl, ?_⟩) (by assumption) ?_
  rotate_left
  · intro wt hSw; (try dsimp only at hSw); have p1 := cellB hSw p1 yp; have p2 := cellB hSw p2 yp; have s0 := cellB hSw s0 ys; have s1 := cellB hSw s1 ys; have s2 := cellB hSw s2 ys; have s3 := cellB hSw s3 ys; have m0 := cellB hSw m0 ym; have m1 := cellB hSw m1 ym; have m2 := cellB hSw m2 ym; have m3 := cellB hSw m3 ym; first | (go_simp; done) | (go_simp; with_reducible rfl) | (trace_state; fail)
  try simp only [Act.put, List.setIfInBounds_toArray, List.set_cons_zero, List.set_cons_succ]
  refine wpAnyH_take (i := 15) (oi := { dst := some 35, op := Op.fieldAddr 27 (Operand.tmp 2) 1, type := 0, pos := _, after := #[{ on := 8, ground := Ground.guard }], guard := some (8, false) }) (v := ?_) rfl (by kernel_rfl) (by kernel_rfl) (by kernel_rfl) (fun _ _ _ h => h) (Or.inl ⟨by rfl, ?_⟩) (by assumption) ?_
  rotate_left
  · intro wt hSw; (try dsimp only at hSw); have p1 := cellB hSw p1 yp; have p2 := cellB hSw p2 yp; have s0 := cellB hSw s0 ys; have s1 := cellB hSw s1 ys; have s2 := cellB hSw s2 ys; have s3 := cellB hSw s3 ys; have m0 := cellB hSw m0 ym; have m1 := cellB hSw m1 ym; have m2 := cellB hSw m2 ym; have m3 := cellB hSw m3 ym; first | (go_simp; done) | (go_simp; with_reducible rfl) | (trace_state; fail)
  try simp only [Act.put, List.setIfInBounds_toArray, List.set_cons_zero, List.set_cons_succ]
  refine wpAnyH_take (i := 16) (oi := { dst := some 36, op := Op.load 23 (Operand.tmp 35), type := 23, pos := _, after := #[{ on := 15, ground := Ground.data }, { on := 8, ground := Ground.guard }], guard := some (8, false) }) (v := ?_) rfl (by kernel_rfl) (by kernel_rfl) (by kernel_rfl) (fun _ _ _ h => h) (Or.inl ⟨by rfl, ?_⟩) (by assumption) ?_
  rotate_left
  · intro wt hSw; (try dsimp only at hSw); have p1 := cellB hSw p1 yp; have p2 := cellB hSw p2 yp; have s0 := cellB hSw s0 ys; have s1 := cellB hSw s1 ys; have s2 := cellB hSw s2 ys; have s3 := cellB hSw s3 ys; have m0 := cellB hSw m0 ym; have m1 := cellB hSw m1 ym; have m2 := cellB hSw m2 ym; have m3 := cellB hSw m3 ym; first | (go_simp; done) | (go_simp; with_reducible rfl) | (trace_state; fail)
  try simp only [Act.put, List.setIfInBounds_toArray, List.set_cons_zero, List.set_cons_succ]
  refine wpAnyH_take (i := 17) (oi := { dst := some 37, op := Op.fieldAddr 27 (Operand.tmp 2) 2, type := 0, pos := _, after := #[{ on := 8, ground := Ground.guard }], guard := some (8, false) }) (v := ?_) rfl (by kernel_rfl) (by kernel_rfl) (by kernel_rfl) (fun _ _ _ h => h) (Or.inl ⟨by rfl, ?_⟩) (by assumption) ?_
  rotate_left
  · intro wt hSw; (try dsimp only at hSw); have p1 := cellB hSw p1 yp; have p2 := cellB hSw p2 yp; have s0 := cellB hSw s0 ys; have s1 := cellB hSw s1 ys; have s2 := cellB hSw s2 ys; have s3 := cellB hSw s3 ys; have m0 := cellB hSw m0 ym; have m1 := cellB hSw m1 ym; have m2 := cellB hSw m2 ym; have m3 := cellB hSw m3 ym; first | (go_simp; done) | (go_simp; with_reducible rfl) | (trace_state; fail)
  try simp only [Act.put, List.setIfInBounds_toArray, List.set_cons_zero, List.set_cons_succ]
  refine wpAnyH_take (i := 18) (oi := { dst := some 38, op := Op.load 24 (Operand.tmp 37), type := 24, pos := _, after := #[{ on := 17, ground := Ground.data }, { on := 8, ground := Ground.guard }], guard := some (8, false) }) (v := ?_) rfl (by kernel_rfl) (by kernel_rfl) (by kernel_rfl) (fun _ _ _ h => h) (Or.inl ⟨by rfl, ?_⟩) (by assumption) ?_
  rotate_left
  · intro wt hSw; (try dsimp only at hSw); have p1 := cellB hSw p1 yp; have p2 := cellB hSw p2 yp; have s0 := cellB hSw s0 ys; have s1 := cellB hSw s1 ys; have s2 := cellB hSw s2 ys; have s3 := cellB hSw s3 ys; have m0 := cellB hSw m0 ym; have m1 := cellB hSw m1 ym; have m2 := cellB hSw m2 ym; have m3 := cellB hSw m3 ym; first | (go_simp; done) | (go_simp; with_reducible rfl) | (trace_state; fail)
  try simp only [Act.put, List.setIfInBounds_toArray, List.set_cons_zero, List.set_cons_succ]
  refine wpAnyH_take (i := 19) (oi := { dst := some 39, op := Op.load 31 (Operand.tmp 3), type := 31, pos := _, after := #[{ on := 8, ground := Ground.guard }], guard := some (8, false) }) (v := ?_) rfl (by kernel_rfl) (by kernel_rfl) (by kernel_rfl) (fun _ _ _ h => h) (Or.inl ⟨by rfl, ?_⟩) (by assumption) ?_
  rotate_left
  · intro wt hSw; (try dsimp only at hSw); have p1 := cellB hSw p1 yp; have p2 := cellB hSw p2 yp; have s0 := cellB hSw s0 ys; have s1 := cellB hSw s1 ys; have s2 := cellB hSw s2 ys; have s3 := cellB hSw s3 ys; have m0 := cellB hSw m0 ym; have m1 := cellB hSw m1 ym; have m2 := cellB hSw m2 ym; have m3 := cellB hSw m3 ym; first | (go_simp; done) | (go_simp; with_reducible rfl) | (trace_state; fail)
  try simp only [Act.put, List.setIfInBounds_toArray, List.set_cons_zero, List.set_cons_succ]
  refine wpAnyH_ready (rs := [14]) (by kernel_rfl) (by simp) ?_
  refine AllReadyH.cons (o := { dst := some 34, op := Op.call { callee := Callee.value (Operand.func 12), args := #[Operand.tmp 30, Operand.tmp 32, Operand.tmp 33], argTypes := #[23, 24, 31] }, type := 4, pos := _, after := #[{ on := 10, ground := Ground.data }, { on := 12, ground := Ground.data }, { on := 13, ground := Ground.data }, { on := 8, ground := Ground.chain }, { on := 8, ground := Ground.guard }], guard := some (8, false) }) rfl (fun K hK => ?_) AllReadyH.nil
  go_simp
  refine (HF1.out _ (HB7.out.trans (hHeld.mono HB7.out.size))).mono ?_; rintro e w3 ⟨rfl, hb⟩; have hHeld := hHeld.trans (hb.mono hHeld.size); clear hb
  go_wp2_with fail
  refine hK.out _ _ ?_ (fun hHeld => ?_)
  · (try dsimp only); first | assumption | exact Below.alloc hHeld hHeld.size _ | exact (Below.refl _ _).drew | exact Below.drew (Below.refl _ _) | exact Below_drewN _ _ _ | exact Below.refl _ _ | (trace_state; fail)
  clear hK K
  try simp only [Act.put, List.setIfInBounds_toArray, List.set_cons_zero, List.set_cons_succ]
  refine wpAnyH_ready (rs := [20]) (by kernel_rfl) (by simp) ?_
  refine AllReadyH.cons (o := { dst := some 40, op := Op.call { callee := Callee.value (Operand.func 13), args := #[Operand.tmp 36, Operand.tmp 38, Operand.tmp 39], argTypes := #[23, 24, 31] }, type := 4, pos := _, after := #[{ on := 16, ground := Ground.data }, { on := 18, ground := Ground.data }, { on := 19, ground := Ground.data }, { on := 14, ground := Ground.chain }, { on := 8, ground := Ground.guard }], guard := some (8, false) }) rfl (fun K hK => ?_) AllReadyH.nil
  go_simp
  refine (HF2.out _ (HB7.out.trans (hHeld.mono HB7.out.size))).mono ?_; rintro e w4 ⟨rfl, hb⟩; have hHeld := hHeld.trans (hb.mono hHeld.size); clear hb
  go_wp2_with fail
  refine hK.out _ _ ?_ (fun hHeld => ?_)
  · (try dsimp only); first | assumption | exact Below.alloc hHeld hHeld.size _ | exact (Below.refl _ _).drew | exact Below.drew (Below.refl _ _) | exact Below_drewN _ _ _ | exact Below.refl _ _ | (trace_state; fail)
  clear hK K
  try simp only [Act.put, List.setIfInBounds_toArray, List.set_cons_zero, List.set_cons_succ]
  refine wpAnyH_take (i := 21) (oi := { dst := some 41, op := Op.binOp BinOp.neq 4 (Operand.tmp 34) (Operand.tmp 40) 4, type := 4, pos := _, after := #[{ on := 14, ground := Ground.data }, { on := 20, ground := Ground.data }, { on := 8, ground := Ground.guard }], guard := some (8, false) }) (v := ?_) rfl (by kernel_rfl) (by kernel_rfl) (by kernel_rfl) (fun _ _ _ h => h) (Or.inl ⟨by rfl, ?_⟩) (by assumption) ?_
  rotate_left
  · intro wt hSw; (try dsimp only at hSw); have p1 := cellB hSw p1 yp; have p2 := cellB hSw p2 yp; have s0 := cellB hSw s0 ys; have s1 := cellB hSw s1 ys; have s2 := cellB hSw s2 ys; have s3 := cellB hSw s3 ys; have m0 := cellB hSw m0 ym; have m1 := cellB hSw m1 ym; have m2 := cellB hSw m2 ym; have m3 := cellB hSw m3 ym; first | (go_simp; done) | (go_simp; with_reducible rfl) | (trace_state; fail)
  try simp only [Act.put, List.setIfInBounds_toArray, List.set_cons_zero, List.set_cons_succ]
  refine wpAnyH_take (i := 22) (oi := { dst := some 42, op := Op.pick (Operand.tmp 28) (Operand.const (Value.bool true)) (Operand.tmp 41), type := 4, pos := _, after := #[{ on := 8, ground := Ground.data }, { on := 21, ground := Ground.data }], guard := none }) (v := ?_) rfl (by kernel_rfl) (by kernel_rfl) (by kernel_rfl) (fun _ _ _ h => h) (Or.inl ⟨by rfl, ?_⟩) (by assumption) ?_
  rotate_left
  · intro wt hSw; (try dsimp only at hSw); have p1 := cellB hSw p1 yp; have p2 := cellB hSw p2 yp; have s0 := cellB hSw s0 ys; have s1 := cellB hSw s1 ys; have s2 := cellB hSw s2 ys; have s3 := cellB hSw s3 ys; have m0 := cellB hSw m0 ym; have m1 := cellB hSw m1 ym; have m2 := cellB hSw m2 ym; have m3 := cellB hSw m3 ym; first | (go_simp; done) | (go_simp; with_reducible rfl) | (trace_state; fail)
  try simp only [Act.put, List.setIfInBounds_toArray, List.set_cons_zero, List.set_cons_succ]
  refine wpAnyH_done (by kernel_rfl) ?_ _
  have HB8 := Lib.hid (HB7.out.trans (hHeld.mono HB7.out.size))
  have hst7 := Lib.hid (hst7.out.below hHeld)
  have y1 := hHeld.size
  have p1 := (hHeld.cell (p := ⟨w.heap.size, 1, none⟩) yp).trans p1
  have p2 := (hHeld.cell (p := ⟨w.heap.size, 2, none⟩) yp).trans p2
  obtain ⟨m0, m1, m2, m3⟩ := C4.keep HC7.out ym hHeld
  have yp := Nat.lt_of_lt_of_le yp y1
  have ys := Nat.lt_of_lt_of_le ys y1
  have ym := Nat.lt_of_lt_of_le ym y1
  clear hHeld s0 s1 s2 s3 hst4 y1
  rcases tables_few p.vars p.blocks with hT | hT | hT
  · rw [HFit.out hT] at HFN
    rw [hT] at HTab
    clear hT
    go_wp2_with fail
    refine (HTab.out _ HB8.out).mono ?_; rintro e w5 ⟨rfl, hb5⟩
    have p1 := (hb5.cell (p := ⟨w.heap.size, 1, none⟩) yp).trans p1
    have p2 := (hb5.cell (p := ⟨w.heap.size, 2, none⟩) yp).trans p2
    obtain ⟨m0, m1, m2, m3⟩ := C4.keep (by exact ⟨m0, m1, m2, m3⟩) ym hb5
    go_wp2_with fail
    refine (HFN.out _ (HB8.out.trans (hb5.mono HB8.out.size)) (hst7.out.below hb5)).mono ?_; rintro e w6 ⟨rfl, hb6⟩
    have hb5 := hb5.trans (hb6.mono hb5.size)
    go_wp2_with fail
    refine (hAw _).mono ?_; rintro e w7 ⟨rfl, hb7⟩
    have hb5 := hb5.trans (hb7.mono hb5.size)
    go_wp2_with fail
    go_ret
    exact ⟨rfl, HB8.out.trans (hb5.mono HB8.out.size)⟩
  · rw [hT] at HTab
    clear hT
    go_wp2_with fail
    refine (HTab.out _ HB8.out).mono ?_; rintro e w5 ⟨rfl, hb5⟩
    have p1 := (hb5.cell (p := ⟨w.heap.size, 1, none⟩) yp).trans p1
    have p2 := (hb5.cell (p := ⟨w.heap.size, 2, none⟩) yp).trans p2
    obtain ⟨m0, m1, m2, m3⟩ := C4.keep (by exact ⟨m0, m1, m2, m3⟩) ym hb5
    go_wp2_with fail
    refine (hAw _).mono ?_; rintro e w7 ⟨rfl, hb7⟩
    have hb5 := hb5.trans (hb7.mono hb5.size)
    go_wp2_with fail
    go_ret
    exact ⟨rfl, HB8.out.trans (hb5.mono HB8.out.size)⟩
  · rw [hT] at HTab
    clear hT
    go_wp2_with fail
    refine (HTab.out _ HB8.out).mono ?_; rintro e w5 ⟨rfl, hb5⟩
    have p1 := (hb5.cell (p := ⟨w.heap.size, 1, none⟩) yp).trans p1
    have p2 := (hb5.cell (p := ⟨w.heap.size, 2, none⟩) yp).trans p2
    obtain ⟨m0, m1, m2, m3⟩ := C4.keep (by exact ⟨m0, m1, m2, m3⟩) ym hb5
    go_wp2_with fail
    refine (hAw _).mono ?_; rintro e w7 ⟨rfl, hb7⟩
    have hb5 := hb5.trans (hb7.mono hb5.size)
    go_wp2_with fail
    go_ret
    exact ⟨rfl, HB8.out.trans (hb5.mono HB8.out.size)⟩
end Go.Proofs.Ythanmbfelihkfaa
