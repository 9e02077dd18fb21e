/- Layer 23: the law StateSame's walk. -/
import Derived.Test.YthanmbfelihkfaaStSameQ
import Derived.Test.YthanmbfelihkfaaStAreaR
import Derived.Test.YthanmbfelihkfaaFewP
import Derived.Test.YthanmbfelihkfaaLawTwentythree
import Derived.Test.YthanmbfelihkfaaKeep
namespace Go.Proofs.Ythanmbfelihkfaa
open Go.RowKit
set_option linter.unusedSimpArgs false
set_option linter.unusedVariables false
set_option maxHeartbeats 8000000 in
theorem stateSame_walk (v b : Value) (s : St) (v2 b2 : Value) (t : St) (pc pv pb pu : Value) (p : Pr) (w : World) (h : StAt w v b s) (g : StAt w v2 b2 t) (hp : PrAt w pc pv pb pu p) :
    Calls Try.prog 5 #[.agg #[v, b, .int .i64 s.now, .int .i64 s.fault], .agg #[v2, b2, .int .i64 t.now, .int .i64 t.fault], .agg #[pc, pv, pb, pu]] w fun e w' => e = .returned (.bool true) ∧ Below w.heap.size w w' := by
  have cp := @cell_past
  have hAw := law23_awake
  have hS1 := fun W (hb : Below w.heap.size w W) => law23_Short v b s W (h.below hb)
  have hS2 := fun W (hb : Below w.heap.size w W) => law23_Short v2 b2 t W (g.below hb)
  have hF := fun W (hb : Below w.heap.size w W) => law16_Few pc pv pb pu p W (hp.below hb)
  obtain ⟨W0, hW0⟩ : ∃ W0, W0 = ((w.alloc (.cells #[v, b, .int .i64 s.now, .int .i64 s.fault] 31)).alloc (.cells #[v2, b2, .int .i64 t.now, .int .i64 t.fault] 31)).alloc (.cells #[pc, pv, pb, pu] 27) := ⟨_, rfl⟩
  have hBW0 : Below w.heap.size w W0 := by rw [hW0]; exact by (repeat' (first | (with_reducible exact Below.refl _ _) | (with_reducible assumption) | (with_reducible refine below_drewN ?_ _) | (with_reducible refine Below.alloc ?_ ?_ _) | (with_reducible refine Below.drew ?_) | (with_reducible refine Below.setCell ?_ ?_ _) | go_size))
  have f1 : C4 W0 w.heap.size v b (.int .i64 s.now) (.int .i64 s.fault) := by rw [hW0]; exact C4.new w _ _ _ _ _ (by (repeat' (first | (with_reducible exact Below.refl _ _) | (with_reducible assumption) | (with_reducible refine below_drewN ?_ _) | (with_reducible refine Below.alloc ?_ ?_ _) | (with_reducible refine Below.drew ?_) | (with_reducible refine Below.setCell ?_ ?_ _) | go_size)))
  have f2 : C4 W0 (w.heap.size + 1) v2 b2 (.int .i64 t.now) (.int .i64 t.fault) := by
    have := C4.new (w.alloc (.cells #[v, b, .int .i64 s.now, .int .i64 s.fault] 31)) v2 b2 (.int .i64 t.now) (.int .i64 t.fault) 31 (W' := W0) (by rw [hW0]; exact by (repeat' (first | (with_reducible exact Below.refl _ _) | (with_reducible assumption) | (with_reducible refine below_drewN ?_ _) | (with_reducible refine Below.alloc ?_ ?_ _) | (with_reducible refine Below.drew ?_) | (with_reducible refine Below.setCell ?_ ?_ _) | go_size)))
    simpa using this
  have f3 : C4 W0 (w.heap.size + 1 + 1) pc pv pb pu := by
    have := C4.new ((w.alloc (.cells #[v, b, .int .i64 s.now, .int .i64 s.fault] 31)).alloc (.cells #[v2, b2, .int .i64 t.now, .int .i64 t.fault] 31)) pc pv pb pu 27 (W' := W0) (by rw [hW0]; exact by (repeat' (first | (with_reducible exact Below.refl _ _) | (with_reducible assumption) | (with_reducible refine below_drewN ?_ _) | (with_reducible refine Below.alloc ?_ ?_ _) | (with_reducible refine Below.drew ?_) | (with_reducible refine Below.setCell ?_ ?_ _) | go_size)))
    simpa using this
  have z3 : w.heap.size + 1 + 1 < W0.heap.size := by rw [hW0]; simp
  have z2 : w.heap.size + 1 < W0.heap.size := by omega
  have z1 : w.heap.size < W0.heap.size := by omega
  have HW0 := Lib.hid hW0
  have HF1 := Lib.hid f1
  have HF2 := Lib.hid f2
  have HF3 := Lib.hid f3
  clear hW0 f1 f2 f3
  have HB0 := Lib.hid hBW0
  cases hs1 : shortS s
  · rw [hs1] at hS1
    go_enter Try.func5, Try.ntmps5
    go_wp2_with fail
    refine (hS1 _ (by (repeat' (first | (with_reducible exact Below.refl _ _) | (with_reducible assumption) | (with_reducible refine below_drewN ?_ _) | (with_reducible refine Below.alloc ?_ ?_ _) | (with_reducible refine Below.drew ?_) | (with_reducible refine Below.setCell ?_ ?_ _) | go_size)))).mono ?_; rintro e A1 ⟨rfl, hb1⟩
    rw [← HW0.out] at hb1
    go_wp2_with fail
    refine (hAw _).mono ?_; rintro e A2 ⟨rfl, hb2⟩
    go_wp2_with fail
    go_ret
    exact ⟨rfl, HB0.out.trans ((hb1.trans (hb2.mono hb1.size)).mono HB0.out.size)⟩
  rw [hs1] at hS1
  cases hs2 : shortS t
  · rw [hs2] at hS2
    go_enter Try.func5, Try.ntmps5
    go_wp2_with fail
    refine (hS1 _ (by (repeat' (first | (with_reducible exact Below.refl _ _) | (with_reducible assumption) | (with_reducible refine below_drewN ?_ _) | (with_reducible refine Below.alloc ?_ ?_ _) | (with_reducible refine Below.drew ?_) | (with_reducible refine Below.setCell ?_ ?_ _) | go_size)))).mono ?_; rintro e A1 ⟨rfl, hb1⟩
    rw [← HW0.out] at hb1
    obtain ⟨e0, e1, e2, e3⟩ := HF2.out.keep z2 hb1
    go_wp2_with fail
    refine (hS2 _ (HB0.out.trans (hb1.mono HB0.out.size))).mono ?_; rintro e A2 ⟨rfl, hb2⟩
    have hb2 := hb1.trans (hb2.mono hb1.size)
    go_wp2_with fail
    refine (hAw _).mono ?_; rintro e A3 ⟨rfl, hb3⟩
    have hb3 := hb2.trans (hb3.mono hb2.size)
    go_wp2_with fail
    go_ret
    exact ⟨rfl, HB0.out.trans (hb3.mono HB0.out.size)⟩
  rw [hs2] at hS2
  cases hfp : fewP p
  · rw [hfp] at hF
    go_enter Try.func5, Try.ntmps5
    go_wp2_with fail
    refine (hS1 _ (by (repeat' (first | (with_reducible exact Below.refl _ _) | (with_reducible assumption) | (with_reducible refine below_drewN ?_ _) | (with_reducible refine Below.alloc ?_ ?_ _) | (with_reducible refine Below.drew ?_) | (with_reducible refine Below.setCell ?_ ?_ _) | go_size)))).mono ?_; rintro e A1 ⟨rfl, hb1⟩
    rw [← HW0.out] at hb1
    obtain ⟨e0, e1, e2, e3⟩ := HF2.out.keep z2 hb1
    go_wp2_with fail
    refine (hS2 _ (HB0.out.trans (hb1.mono HB0.out.size))).mono ?_; rintro e A2 ⟨rfl, hb2⟩
    have hb2 := hb1.trans (hb2.mono hb1.size)
    clear e0 e1 e2 e3
    obtain ⟨e0, e1, e2, e3⟩ := HF3.out.keep z3 hb2
    go_wp2_with fail
    refine (hF _ (HB0.out.trans (hb2.mono HB0.out.size))).mono ?_; rintro e A3 ⟨rfl, hb3⟩
    have hb3 := hb2.trans (hb3.mono hb2.size)
    go_wp2_with fail
    refine (hAw _).mono ?_; rintro e A4 ⟨rfl, hb4⟩
    have hb4 := hb3.trans (hb4.mono hb3.size)
    go_wp2_with fail
    go_ret
    exact ⟨rfl, HB0.out.trans (hb4.mono HB0.out.size)⟩
  rw [hfp] at hF
  obtain ⟨⟨_, hL, _, _⟩, _⟩ : (p.consts.length ≤ 60 ∧ p.vars.length ≤ 70 ∧ p.blocks.length ≤ 40 ∧ p.units.length ≤ 10) ∧ (∀ x ∈ p.vars, x.name.length ≤ 300) ∧ (∀ x ∈ p.blocks, x.name.length ≤ 300) ∧ ∀ x ∈ p.units, fewU x = true := of_decide_eq_true hfp
  have HA1 := Lib.hid (fun ar W (hb : Below w.heap.size w W) => state_Area pv v b p.vars s ar W (hp.vs.below varR_stable hb) (h.below hb) hs1 hL)
  have HA2 := Lib.hid (fun ar W (hb : Below w.heap.size w W) => ref23_Area pv v b p.vars s ar W (hp.vs.below varR_stable hb) (h.below hb) hs1 hL)
  go_enter Try.func5, Try.ntmps5
  go_wp2_with fail
  refine (hS1 _ (by (repeat' (first | (with_reducible exact Below.refl _ _) | (with_reducible assumption) | (with_reducible refine below_drewN ?_ _) | (with_reducible refine Below.alloc ?_ ?_ _) | (with_reducible refine Below.drew ?_) | (with_reducible refine Below.setCell ?_ ?_ _) | go_size)))).mono ?_; rintro e A1 ⟨rfl, hb1⟩
  rw [← HW0.out] at hb1
  obtain ⟨e0, e1, e2, e3⟩ := HF2.out.keep z2 hb1
  go_wp2_with fail
  refine (hS2 _ (HB0.out.trans (hb1.mono HB0.out.size))).mono ?_; rintro e A2 ⟨rfl, hb2⟩
  have hb2 := hb1.trans (hb2.mono hb1.size)
  clear e0 e1 e2 e3
  obtain ⟨e0, e1, e2, e3⟩ := HF3.out.keep z3 hb2
  go_wp2_with fail
  refine (hF _ (HB0.out.trans (hb2.mono HB0.out.size))).mono ?_; rintro e A3 ⟨rfl, hb3⟩
  have hb3 := hb2.trans (hb3.mono hb2.size)
  clear e0 e1 e2 e3 hb1 hb2 hF hS1 hS2
  have HB3 := Lib.hid hb3
  clear hb3
  go_wp2_with fail
  go_loopw [7] (fun jj wr => ∃ k : Nat, k ≤ 5 ∧ jj = .int .i64 ((k : Int) - 1) ∧ Hid (Below W0.heap.size W0 wr)) (fun jj _ => 5 - (intOf jj + 1).toNat)
  case atStart => exact ⟨0, by omega, rfl, HB3⟩
  case round =>
    obtain ⟨k, hk, rfl, hBw⟩ := hrel
    have y1 := Nat.lt_of_lt_of_le z1 hBw.out.size
    have y2 := Nat.lt_of_lt_of_le z2 hBw.out.size
    have y3 := Nat.lt_of_lt_of_le z3 hBw.out.size
    have HBr := Lib.hid (HB0.out.trans (hBw.out.mono HB0.out.size))
    obtain ⟨a0, a1, a2, a3⟩ := HF1.out.keep z1 hBw.out
    obtain ⟨b0, b1, b2', b3⟩ := HF2.out.keep z2 hBw.out
    obtain ⟨c0, c1, c2, c3⟩ := HF3.out.keep z3 hBw.out
    by_cases hlt : k < 5
    · have q0 : ((k : Int) - 1 < 4) = True := eq_true (by omega)
      go_wp2_with fail
      refine wp_region_held_drew (S := (fun w' => Below wr.heap.size wr w')) (by kernel_rfl) ?_ (fun hHeld => ?_)
      · (try dsimp only); first | assumption | exact (Below.refl _ _).drew | exact Below.drew (Below.refl _ _) | exact Below_drewN _ _ _ | exact Below.refl _ _ | (trace_state; fail)
      refine wpAnyH_take (i := 0) (oi := { dst := some 26, op := Op.fieldAddr 27 (Operand.tmp 5) 1, type := 0, pos := _, after := #[], guard := none }) (v := ?_) rfl (by kernel_rfl) (by kernel_rfl) (by kernel_rfl) (fun _ _ _ h => h) (Or.inl ⟨by rfl, ?_⟩) (by assumption) ?_
      rotate_left
      · intro wt hSw; (try dsimp only at hSw); have a0 := cellB hSw a0 y1; have a1 := cellB hSw a1 y1; have a2 := cellB hSw a2 y1; have a3 := cellB hSw a3 y1; have c1 := cellB hSw c1 y3; first | (go_simp; done) | (go_simp; with_reducible rfl) | (trace_state; fail)
      try simp only [Act.put, List.setIfInBounds_toArray, List.set_cons_zero, List.set_cons_succ]
      refine wpAnyH_take (i := 1) (oi := { dst := some 27, op := Op.load 23 (Operand.tmp 26), type := 23, pos := _, after := #[{ on := 0, ground := Ground.data }], guard := none }) (v := ?_) rfl (by kernel_rfl) (by kernel_rfl) (by kernel_rfl) (fun _ _ _ h => h) (Or.inl ⟨by rfl, ?_⟩) (by assumption) ?_
      rotate_left
      · intro wt hSw; (try dsimp only at hSw); have a0 := cellB hSw a0 y1; have a1 := cellB hSw a1 y1; have a2 := cellB hSw a2 y1; have a3 := cellB hSw a3 y1; have c1 := cellB hSw c1 y3; first | (go_simp; done) | (go_simp; with_reducible rfl) | (trace_state; fail)
      try simp only [Act.put, List.setIfInBounds_toArray, List.set_cons_zero, List.set_cons_succ]
      refine wpAnyH_take (i := 2) (oi := { dst := some 28, op := Op.load 31 (Operand.tmp 3), type := 31, pos := _, after := #[], guard := none }) (v := ?_) rfl (by kernel_rfl) (by kernel_rfl) (by kernel_rfl) (fun _ _ _ h => h) (Or.inl ⟨by rfl, ?_⟩) (by assumption) ?_
      rotate_left
      · intro wt hSw; (try dsimp only at hSw); have a0 := cellB hSw a0 y1; have a1 := cellB hSw a1 y1; have a2 := cellB hSw a2 y1; have a3 := cellB hSw a3 y1; have c1 := cellB hSw c1 y3; first | (go_simp; done) | (go_simp; with_reducible rfl) | (trace_state; fail)
      try simp only [Act.put, List.setIfInBounds_toArray, List.set_cons_zero, List.set_cons_succ]
      refine wpAnyH_take (i := 3) (oi := { dst := some 29, op := Op.move (Operand.tmp 7), type := 3, pos := _, after := #[], guard := none }) (v := ?_) rfl (by kernel_rfl) (by kernel_rfl) (by kernel_rfl) (fun _ _ _ h => h) (Or.inl ⟨by rfl, ?_⟩) (by assumption) ?_
      rotate_left
      · intro wt hSw; (try dsimp only at hSw); have a0 := cellB hSw a0 y1; have a1 := cellB hSw a1 y1; have a2 := cellB hSw a2 y1; have a3 := cellB hSw a3 y1; have c1 := cellB hSw c1 y3; first | (go_simp; done) | (go_simp; with_reducible rfl) | (trace_state; fail)
      try simp only [Act.put, List.setIfInBounds_toArray, List.set_cons_zero, List.set_cons_succ]
      refine wpAnyH_take (i := 5) (oi := { dst := some 31, op := Op.fieldAddr 27 (Operand.tmp 5) 1, type := 0, pos := _, after := #[], guard := none }) (v := ?_) rfl (by kernel_rfl) (by kernel_rfl) (by kernel_rfl) (fun _ _ _ h => h) (Or.inl ⟨by rfl, ?_⟩) (by assumption) ?_
      rotate_left
      · intro wt hSw; (try dsimp only at hSw); have a0 := cellB hSw a0 y1; have a1 := cellB hSw a1 y1; have a2 := cellB hSw a2 y1; have a3 := cellB hSw a3 y1; have c1 := cellB hSw c1 y3; first | (go_simp; done) | (go_simp; with_reducible rfl) | (trace_state; fail)
      try simp only [Act.put, List.setIfInBounds_toArray, List.set_cons_zero, List.set_cons_succ]
      refine wpAnyH_take (i := 6) (oi := { dst := some 32, op := Op.load 23 (Operand.tmp 31), type := 23, pos := _, after := #[{ on := 5, ground := Ground.data }], guard := none }) (v := ?_) rfl (by kernel_rfl) (by kernel_rfl) (by kernel_rfl) (fun _ _ _ h => h) (Or.inl ⟨by rfl, ?_⟩) (by assumption) ?_
      rotate_left
      · intro wt hSw; (try dsimp only at hSw); have a0 := cellB hSw a0 y1; have a1 := cellB hSw a1 y1; have a2 := cellB hSw a2 y1; have a3 := cellB hSw a3 y1; have c1 := cellB hSw c1 y3; first | (go_simp; done) | (go_simp; with_reducible rfl) | (trace_state; fail)
      try simp only [Act.put, List.setIfInBounds_toArray, List.set_cons_zero, List.set_cons_succ]
      refine wpAnyH_take (i := 7) (oi := { dst := some 33, op := Op.load 31 (Operand.tmp 3), type := 31, pos := _, after := #[], guard := none }) (v := ?_) rfl (by kernel_rfl) (by kernel_rfl) (by kernel_rfl) (fun _ _ _ h => h) (Or.inl ⟨by rfl, ?_⟩) (by assumption) ?_
      rotate_left
      · intro wt hSw; (try dsimp only at hSw); have a0 := cellB hSw a0 y1; have a1 := cellB hSw a1 y1; have a2 := cellB hSw a2 y1; have a3 := cellB hSw a3 y1; have c1 := cellB hSw c1 y3; first | (go_simp; done) | (go_simp; with_reducible rfl) | (trace_state; fail)
      try simp only [Act.put, List.setIfInBounds_toArray, List.set_cons_zero, List.set_cons_succ]
      refine wpAnyH_take (i := 8) (oi := { dst := some 34, op := Op.move (Operand.tmp 7), type := 3, pos := _, after := #[], guard := none }) (v := ?_) rfl (by kernel_rfl) (by kernel_rfl) (by kernel_rfl) (fun _ _ _ h => h) (Or.inl ⟨by rfl, ?_⟩) (by assumption) ?_
      rotate_left
      · intro wt hSw; (try dsimp only at hSw); have a0 := cellB hSw a0 y1; have a1 := cellB hSw a1 y1; have a2 := cellB hSw a2 y1; have a3 := cellB hSw a3 y1; have c1 := cellB hSw c1 y3; first | (go_simp; done) | (go_simp; with_reducible rfl) | (trace_state; fail)
      try simp only [Act.put, List.setIfInBounds_toArray, List.set_cons_zero, List.set_cons_succ]
      refine wpAnyH_ready (rs := [4]) (by kernel_rfl) (by simp) ?_
      refine AllReadyH.cons (o := { dst := some 30, op := Op.call { callee := Callee.value (Operand.func 19), args := #[Operand.tmp 27, Operand.tmp 28, Operand.tmp 29], argTypes := #[23, 31, 3] }, type := 45, pos := _, after := #[{ on := 1, ground := Ground.data }, { on := 2, ground := Ground.data }, { on := 3, ground := Ground.data }], guard := none }) rfl (fun K hK => ?_) AllReadyH.nil
      go_simp
      refine (HA1.out _ _ (HBr.out.trans (hHeld.mono HBr.out.size))).mono ?_; rintro e w1 ⟨r1, rfl, hr1, hb⟩; have hHeld := hHeld.trans (hb.mono hHeld.size); clear hb
      go_wp2_with fail
      refine hK.out _ _ ?_ (fun hHeld => ?_)
      · (try dsimp only); first | assumption | exact (Below.refl _ _).drew | exact Below.drew (Below.refl _ _) | exact Below_drewN _ _ _ | exact Below.refl _ _ | (trace_state; fail)
      clear hK K
      try simp only [Act.put, List.setIfInBounds_toArray, List.set_cons_zero, List.set_cons_succ]
      refine wpAnyH_ready (rs := [9]) (by kernel_rfl) (by simp) ?_
      refine AllReadyH.cons (o := { dst := some 35, op := Op.call { callee := Callee.value (Operand.func 20), args := #[Operand.tmp 32, Operand.tmp 33, Operand.tmp 34], argTypes := #[23, 31, 3] }, type := 45, pos := _, after := #[{ on := 6, ground := Ground.data }, { on := 7, ground := Ground.data }, { on := 8, ground := Ground.data }, { on := 4, ground := Ground.chain }], guard := none }) rfl (fun K hK => ?_) AllReadyH.nil
      go_simp
      refine (HA2.out _ _ (HBr.out.trans (hHeld.mono HBr.out.size))).mono ?_; rintro e w2 ⟨r2, rfl, hr2, hb⟩; have hr1 := hr1.below intR_stable hb; have hHeld := hHeld.trans (hb.mono hHeld.size); clear hb
      go_wp2_with fail
      refine hK.out _ _ ?_ (fun hHeld => ?_)
      · (try dsimp only); first | assumption | exact (Below.refl _ _).drew | exact Below.drew (Below.refl _ _) | exact Below_drewN _ _ _ | exact Below.refl _ _ | (trace_state; fail)
      clear hK K
      try simp only [Act.put, List.setIfInBounds_toArray, List.set_cons_zero, List.set_cons_succ]
      refine wpAnyH_ready (rs := [10]) (by kernel_rfl) (by simp) ?_
      refine AllReadyH.cons (o := { dst := some 36, op := Op.call { callee := Callee.value (Operand.func 18), args := #[Operand.tmp 30, Operand.tmp 35], argTypes := #[45, 45] }, type := 4, pos := _, after := #[{ on := 4, ground := Ground.data }, { on := 9, ground := Ground.data }, { on := 9, ground := Ground.chain }], guard := none }) rfl (fun K hK => ?_) AllReadyH.nil
      go_simp
      refine (ref15_Ints _ _ _ _ _ hr1 hr2).mono ?_; rintro e w3 ⟨rfl, m3, rfl⟩; rw [decide_eq_true rfl]; have hHeld := hHeld.trans ((Below_drewN w2.heap.size w2 m3).mono hHeld.size)
      go_wp2_with fail
      refine hK.out _ _ ?_ (fun hHeld => ?_)
      · (try dsimp only); first | assumption | exact (Below.refl _ _).drew | exact Below.drew (Below.refl _ _) | exact Below_drewN _ _ _ | exact Below.refl _ _ | (trace_state; fail)
      clear hK K
      try simp only [Act.put, List.setIfInBounds_toArray, List.set_cons_zero, List.set_cons_succ]
      refine wpAnyH_take (i := 11) (oi := { dst := some 37, op := Op.unOp UnOp.not 4 (Operand.tmp 36), type := 4, pos := _, after := #[{ on := 10, ground := Ground.data }], guard := none }) (v := ?_) rfl (by kernel_rfl) (by kernel_rfl) (by kernel_rfl) (fun _ _ _ h => h) (Or.inl ⟨by rfl, ?_⟩) (by assumption) ?_
      rotate_left
      · intro wt hSw; (try dsimp only at hSw); have a0 := cellB hSw a0 y1; have a1 := cellB hSw a1 y1; have a2 := cellB hSw a2 y1; have a3 := cellB hSw a3 y1; have c1 := cellB hSw c1 y3; first | (go_simp; done) | (go_simp; with_reducible rfl) | (trace_state; fail)
      try simp only [Act.put, List.setIfInBounds_toArray, List.set_cons_zero, List.set_cons_succ]
      refine wpAnyH_done (by kernel_rfl) ?_ _
      have HW := Lib.hid (hBw.out.trans (hHeld.mono hBw.out.size))
      clear hHeld hr1 hr2
      go_wp2_with fail
      go_roundw
      case rel => exact ⟨k + 1, by omega, by congr 1; omega, HW⟩
      case measure => first | (simp [intOf]; done) | (simp [intOf]; omega)
    · obtain rfl : k = 5 := by omega
      cases hss : sameS s t
      all_goals
        have HC1 := Lib.hid (fun W (hb : Below w.heap.size w W) => hss ▸ state_Same v b v2 b2 s t W (h.below hb) (g.below hb))
        have HC2 := Lib.hid (fun W (hb : Below w.heap.size w W) => hss ▸ ref23_Same v b v2 b2 s t W (h.below hb) (g.below hb))
        have HC3 := Lib.hid (fun W (hb : Below w.heap.size w W) => state_Clone v b s W (h.below hb) hs1)
        have HC4 := Lib.hid (fun W (hb : Below w.heap.size w W) (x y : Value) (hx : StAt W x y s) => sameS_self s ▸ ref23_Same x y v b s s W hx (h.below hb))
        have HC5 := Lib.hid (fun W (hb : Below w.heap.size w W) => sameS_self s ▸ state_Same v b v b s s W (h.below hb) (h.below hb))
        go_wp2_with fail
        refine wp_region_held_drew (S := (fun w' => Below wr.heap.size wr w')) (by kernel_rfl) ?_ (fun hHeld => ?_)
        · (try dsimp only); first | assumption | exact (Below.refl _ _).drew | exact Below.drew (Below.refl _ _) | exact Below_drewN _ _ _ | exact Below.refl _ _ | (trace_state; fail)
        refine wpAnyH_take (i := 0) (oi := { dst := some 38, op := Op.load 31 (Operand.tmp 3), type := 31, pos := _, after := #[], guard := none }) (v := ?_) rfl (by kernel_rfl) (by kernel_rfl) (by kernel_rfl) (fun _ _ _ h => h) (Or.inl ⟨by rfl, ?_⟩) (by assumption) ?_
        rotate_left
        · intro wt hSw; (try dsimp only at hSw); have a0 := cellB hSw a0 y1; have a1 := cellB hSw a1 y1; have a2 := cellB hSw a2 y1; have a3 := cellB hSw a3 y1; have b0 := cellB hSw b0 y2; have b1 := cellB hSw b1 y2; have b2' := cellB hSw b2' y2; have b3 := cellB hSw b3 y2; first | (go_simp; done) | (go_simp; with_reducible rfl) | (trace_state; fail)
        try simp only [Act.put, List.setIfInBounds_toArray, List.set_cons_zero, List.set_cons_succ]
        refine wpAnyH_take (i := 1) (oi := { dst := some 39, op := Op.load 31 (Operand.tmp 4), type := 31, pos := _, after := #[], guard := none }) (v := ?_) rfl (by kernel_rfl) (by kernel_rfl) (by kernel_rfl) (fun _ _ _ h => h) (Or.inl ⟨by rfl, ?_⟩) (by assumption) ?_
        rotate_left
        · intro wt hSw; (try dsimp only at hSw); have a0 := cellB hSw a0 y1; have a1 := cellB hSw a1 y1; have a2 := cellB hSw a2 y1; have a3 := cellB hSw a3 y1; have b0 := cellB hSw b0 y2; have b1 := cellB hSw b1 y2; have b2' := cellB hSw b2' y2; have b3 := cellB hSw b3 y2; first | (go_simp; done) | (go_simp; with_reducible rfl) | (trace_state; fail)
        try simp only [Act.put, List.setIfInBounds_toArray, List.set_cons_zero, List.set_cons_succ]
        refine wpAnyH_take (i := 3) (oi := { dst := some 41, op := Op.load 31 (Operand.tmp 3), type := 31, pos := _, after := #[], guard := none }) (v := ?_) rfl (by kernel_rfl) (by kernel_rfl) (by kernel_rfl) (fun _ _ _ h => h) (Or.inl ⟨by rfl, ?_⟩) (by assumption) ?_
        rotate_left
        · intro wt hSw; (try dsimp only at hSw); have a0 := cellB hSw a0 y1; have a1 := cellB hSw a1 y1; have a2 := cellB hSw a2 y1; have a3 := cellB hSw a3 y1; have b0 := cellB hSw b0 y2; have b1 := cellB hSw b1 y2; have b2' := cellB hSw b2' y2; have b3 := cellB hSw b3 y2; first | (go_simp; done) | (go_simp; with_reducible rfl) | (trace_state; fail)
        try simp only [Act.put, List.setIfInBounds_toArray, List.set_cons_zero, List.set_cons_succ]
        refine wpAnyH_take (i := 4) (oi := { dst := some 42, op := Op.load 31 (Operand.tmp 4), type := 31, pos := _, after := #[], guard := none }) (v := ?_) rfl (by kernel_rfl) (by kernel_rfl) (by kernel_rfl) (fun _ _ _ h => h) (Or.inl ⟨by rfl, ?_⟩) (by assumption) ?_
        rotate_left
        · intro wt hSw; (try dsimp only at hSw); have a0 := cellB hSw a0 y1; have a1 := cellB hSw a1 y1; have a2 := cellB hSw a2 y1; have a3 := cellB hSw a3 y1; have b0 := cellB hSw b0 y2; have b1 := cellB hSw b1 y2; have b2' := cellB hSw b2' y2; have b3 := cellB hSw b3 y2; first | (go_simp; done) | (go_simp; with_reducible rfl) | (trace_state; fail)
        try simp only [Act.put, List.setIfInBounds_toArray, List.set_cons_zero, List.set_cons_succ]
        refine wpAnyH_ready (rs := [2]) (by kernel_rfl) (by simp) ?_
        refine AllReadyH.cons (o := { dst := some 40, op := Op.call { callee := Callee.value (Operand.func 21), args := #[Operand.tmp 38, Operand.tmp 39], argTypes := #[31, 31] }, type := 4, pos := _, after := #[{ on := 0, ground := Ground.data }, { on := 1, ground := Ground.data }], guard := none }) rfl (fun K hK => ?_) AllReadyH.nil
        go_simp
        refine (HC1.out _ (HBr.out.trans (hHeld.mono HBr.out.size))).mono ?_; rintro e w1 ⟨rfl, hb⟩; have hHeld := hHeld.trans (hb.mono hHeld.size); clear hb
        go_wp2_with fail
        refine hK.out _ _ ?_ (fun hHeld => ?_)
        · (try dsimp only); first | assumption | exact (Below.refl _ _).drew | exact Below.drew (Below.refl _ _) | exact Below_drewN _ _ _ | exact Below.refl _ _ | (trace_state; fail)
        clear hK K
        try simp only [Act.put, List.setIfInBounds_toArray, List.set_cons_zero, List.set_cons_succ]
        refine wpAnyH_ready (rs := [5]) (by kernel_rfl) (by simp) ?_
        refine AllReadyH.cons (o := { dst := some 43, op := Op.call { callee := Callee.value (Operand.func 10), args := #[Operand.tmp 41, Operand.tmp 42], argTypes := #[31, 31] }, type := 4, pos := _, after := #[{ on := 3, ground := Ground.data }, { on := 4, ground := Ground.data }, { on := 2, ground := Ground.chain }], guard := none }) rfl (fun K hK => ?_) AllReadyH.nil
        go_simp
        refine (HC2.out _ (HBr.out.trans (hHeld.mono HBr.out.size))).mono ?_; rintro e w2 ⟨rfl, hb⟩; have hHeld := hHeld.trans (hb.mono hHeld.size); clear hb
        go_wp2_with fail
        refine hK.out _ _ ?_ (fun hHeld => ?_)
        · (try dsimp only); first | assumption | exact (Below.refl _ _).drew | exact Below.drew (Below.refl _ _) | exact Below_drewN _ _ _ | exact Below.refl _ _ | (trace_state; fail)
        clear hK K
        try simp only [Act.put, List.setIfInBounds_toArray, List.set_cons_zero, List.set_cons_succ]
        refine wpAnyH_take (i := 6) (oi := { dst := some 44, op := Op.binOp BinOp.eql 4 (Operand.tmp 40) (Operand.tmp 43) 4, type := 4, pos := _, after := #[{ on := 2, ground := Ground.data }, { on := 5, ground := Ground.data }], guard := none }) (v := ?_) rfl (by kernel_rfl) (by kernel_rfl) (by kernel_rfl) (fun _ _ _ h => h) (Or.inl ⟨by rfl, ?_⟩) (by assumption) ?_
        rotate_left
        · intro wt hSw; (try dsimp only at hSw); have a0 := cellB hSw a0 y1; have a1 := cellB hSw a1 y1; have a2 := cellB hSw a2 y1; have a3 := cellB hSw a3 y1; have b0 := cellB hSw b0 y2; have b1 := cellB hSw b1 y2; have b2' := cellB hSw b2' y2; have b3 := cellB hSw b3 y2; first | (go_simp; done) | (go_simp; with_reducible rfl) | (trace_state; fail)
        try simp only [Act.put, List.setIfInBounds_toArray, List.set_cons_zero, List.set_cons_succ]
        refine wpAnyH_take (i := 7) (oi := { dst := some 45, op := Op.move (Operand.tmp 44), type := 4, pos := _, after := #[{ on := 6, ground := Ground.data }, { on := 5, ground := Ground.chain }], guard := none }) (v := ?_) rfl (by kernel_rfl) (by kernel_rfl) (by kernel_rfl) (fun _ _ _ h => h) (Or.inl ⟨by rfl, ?_⟩) (by assumption) ?_
        rotate_left
        · intro wt hSw; (try dsimp only at hSw); have a0 := cellB hSw a0 y1; have a1 := cellB hSw a1 y1; have a2 := cellB hSw a2 y1; have a3 := cellB hSw a3 y1; have b0 := cellB hSw b0 y2; have b1 := cellB hSw b1 y2; have b2' := cellB hSw b2' y2; have b3 := cellB hSw b3 y2; first | (go_simp; done) | (go_simp; with_reducible rfl) | (trace_state; fail)
        try simp only [Act.put, List.setIfInBounds_toArray, List.set_cons_zero, List.set_cons_succ]
        refine wpAnyH_take (i := 8) (oi := { dst := some 46, op := Op.load 31 (Operand.tmp 3), type := 31, pos := _, after := #[{ on := 7, ground := Ground.guard }], guard := some (7, true) }) (v := ?_) rfl (by kernel_rfl) (by kernel_rfl) (by kernel_rfl) (fun _ _ _ h => h) (Or.inl ⟨by rfl, ?_⟩) (by assumption) ?_
        rotate_left
        · intro wt hSw; (try dsimp only at hSw); have a0 := cellB hSw a0 y1; have a1 := cellB hSw a1 y1; have a2 := cellB hSw a2 y1; have a3 := cellB hSw a3 y1; have b0 := cellB hSw b0 y2; have b1 := cellB hSw b1 y2; have b2' := cellB hSw b2' y2; have b3 := cellB hSw b3 y2; first | (go_simp; done) | (go_simp; with_reducible rfl) | (trace_state; fail)
        try simp only [Act.put, List.setIfInBounds_toArray, List.set_cons_zero, List.set_cons_succ]
        refine wpAnyH_take (i := 10) (oi := { dst := some 48, op := Op.load 31 (Operand.tmp 3), type := 31, pos := _, after := #[{ on := 7, ground := Ground.guard }], guard := some (7, true) }) (v := ?_) rfl (by kernel_rfl) (by kernel_rfl) (by kernel_rfl) (fun _ _ _ h => h) (Or.inl ⟨by rfl, ?_⟩) (by assumption) ?_
        rotate_left
        · intro wt hSw; (try dsimp only at hSw); have a0 := cellB hSw a0 y1; have a1 := cellB hSw a1 y1; have a2 := cellB hSw a2 y1; have a3 := cellB hSw a3 y1; have b0 := cellB hSw b0 y2; have b1 := cellB hSw b1 y2; have b2' := cellB hSw b2' y2; have b3 := cellB hSw b3 y2; first | (go_simp; done) | (go_simp; with_reducible rfl) | (trace_state; fail)
        try simp only [Act.put, List.setIfInBounds_toArray, List.set_cons_zero, List.set_cons_succ]
        refine wpAnyH_ready (rs := [9]) (by kernel_rfl) (by simp) ?_
        refine AllReadyH.cons (o := { dst := some 47, op := Op.call { callee := Callee.value (Operand.func 22), args := #[Operand.tmp 46], argTypes := #[31] }, type := 31, pos := _, after := #[{ on := 8, ground := Ground.data }, { on := 7, ground := Ground.chain }, { on := 7, ground := Ground.guard }], guard := some (7, true) }) rfl (fun K hK => ?_) AllReadyH.nil
        go_simp
        refine (HC3.out _ (HBr.out.trans (hHeld.mono HBr.out.size))).mono ?_; rintro e w3 ⟨vc, bc, gc, Uc, Cc, rfl, hOc, hb⟩; have hSt := Lib.hid hOc.st; clear hOc; have hHeld := hHeld.trans (hb.mono hHeld.size); clear hb
        go_wp2_with fail
        refine hK.out _ _ ?_ (fun hHeld => ?_)
        · (try dsimp only); first | assumption | exact (Below.refl _ _).drew | exact Below.drew (Below.refl _ _) | exact Below_drewN _ _ _ | exact Below.refl _ _ | (trace_state; fail)
        clear hK K
        try simp only [Act.put, List.setIfInBounds_toArray, List.set_cons_zero, List.set_cons_succ]
        refine wpAnyH_ready (rs := [11]) (by kernel_rfl) (by simp) ?_
        refine AllReadyH.cons (o := { dst := some 49, op := Op.call { callee := Callee.value (Operand.func 10), args := #[Operand.tmp 47, Operand.tmp 48], argTypes := #[31, 31] }, type := 4, pos := _, after := #[{ on := 9, ground := Ground.data }, { on := 10, ground := Ground.data }, { on := 9, ground := Ground.chain }, { on := 7, ground := Ground.guard }], guard := some (7, true) }) rfl (fun K hK => ?_) AllReadyH.nil
        go_simp
        refine (HC4.out _ (HBr.out.trans (hHeld.mono HBr.out.size)) _ _ hSt.out).mono ?_; rintro e w4 ⟨rfl, hb⟩; have hHeld := hHeld.trans (hb.mono hHeld.size); clear hb
        go_wp2_with fail
        refine hK.out _ _ ?_ (fun hHeld => ?_)
        · (try dsimp only); first | assumption | exact (Below.refl _ _).drew | exact Below.drew (Below.refl _ _) | exact Below_drewN _ _ _ | exact Below.refl _ _ | (trace_state; fail)
        clear hK K
        try simp only [Act.put, List.setIfInBounds_toArray, List.set_cons_zero, List.set_cons_succ]
        refine wpAnyH_take (i := 12) (oi := { dst := some 50, op := Op.pick (Operand.tmp 45) (Operand.tmp 49) (Operand.const (Value.bool false)), type := 4, pos := _, after := #[{ on := 7, ground := Ground.data }, { on := 11, ground := Ground.data }], guard := none }) (v := ?_) rfl (by kernel_rfl) (by kernel_rfl) (by kernel_rfl) (fun _ _ _ h => h) (Or.inl ⟨by rfl, ?_⟩) (by assumption) ?_
        rotate_left
        · intro wt hSw; (try dsimp only at hSw); have a0 := cellB hSw a0 y1; have a1 := cellB hSw a1 y1; have a2 := cellB hSw a2 y1; have a3 := cellB hSw a3 y1; have b0 := cellB hSw b0 y2; have b1 := cellB hSw b1 y2; have b2' := cellB hSw b2' y2; have b3 := cellB hSw b3 y2; first | (go_simp; done) | (go_simp; with_reducible rfl) | (trace_state; fail)
        try simp only [Act.put, List.setIfInBounds_toArray, List.set_cons_zero, List.set_cons_succ]
        refine wpAnyH_take (i := 13) (oi := { dst := some 51, op := Op.move (Operand.tmp 50), type := 4, pos := _, after := #[{ on := 12, ground := Ground.data }, { on := 11, ground := Ground.chain }], guard := none }) (v := ?_) rfl (by kernel_rfl) (by kernel_rfl) (by kernel_rfl) (fun _ _ _ h => h) (Or.inl ⟨by rfl, ?_⟩) (by assumption) ?_
        rotate_left
        · intro wt hSw; (try dsimp only at hSw); have a0 := cellB hSw a0 y1; have a1 := cellB hSw a1 y1; have a2 := cellB hSw a2 y1; have a3 := cellB hSw a3 y1; have b0 := cellB hSw b0 y2; have b1 := cellB hSw b1 y2; have b2' := cellB hSw b2' y2; have b3 := cellB hSw b3 y2; first | (go_simp; done) | (go_simp; with_reducible rfl) | (trace_state; fail)
        try simp only [Act.put, List.setIfInBounds_toArray, List.set_cons_zero, List.set_cons_succ]
        refine wpAnyH_take (i := 14) (oi := { dst := some 52, op := Op.load 31 (Operand.tmp 3), type := 31, pos := _, after := #[{ on := 13, ground := Ground.guard }], guard := some (13, true) }) (v := ?_) rfl (by kernel_rfl) (by kernel_rfl) (by kernel_rfl) (fun _ _ _ h => h) (Or.inl ⟨by rfl, ?_⟩) (by assumption) ?_
        rotate_left
        · intro wt hSw; (try dsimp only at hSw); have a0 := cellB hSw a0 y1; have a1 := cellB hSw a1 y1; have a2 := cellB hSw a2 y1; have a3 := cellB hSw a3 y1; have b0 := cellB hSw b0 y2; have b1 := cellB hSw b1 y2; have b2' := cellB hSw b2' y2; have b3 := cellB hSw b3 y2; first | (go_simp; done) | (go_simp; with_reducible rfl) | (trace_state; fail)
        try simp only [Act.put, List.setIfInBounds_toArray, List.set_cons_zero, List.set_cons_succ]
        refine wpAnyH_take (i := 15) (oi := { dst := some 53, op := Op.load 31 (Operand.tmp 3), type := 31, pos := _, after := #[{ on := 13, ground := Ground.guard }], guard := some (13, true) }) (v := ?_) rfl (by kernel_rfl) (by kernel_rfl) (by kernel_rfl) (fun _ _ _ h => h) (Or.inl ⟨by rfl, ?_⟩) (by assumption) ?_
        rotate_left
        · intro wt hSw; (try dsimp only at hSw); have a0 := cellB hSw a0 y1; have a1 := cellB hSw a1 y1; have a2 := cellB hSw a2 y1; have a3 := cellB hSw a3 y1; have b0 := cellB hSw b0 y2; have b1 := cellB hSw b1 y2; have b2' := cellB hSw b2' y2; have b3 := cellB hSw b3 y2; first | (go_simp; done) | (go_simp; with_reducible rfl) | (trace_state; fail)
        try simp only [Act.put, List.setIfInBounds_toArray, List.set_cons_zero, List.set_cons_succ]
        refine wpAnyH_ready (rs := [16]) (by kernel_rfl) (by simp) ?_
        refine AllReadyH.cons (o := { dst := some 54, op := Op.call { callee := Callee.value (Operand.func 21), args := #[Operand.tmp 52, Operand.tmp 53], argTypes := #[31, 31] }, type := 4, pos := _, after := #[{ on := 14, ground := Ground.data }, { on := 15, ground := Ground.data }, { on := 13, ground := Ground.chain }, { on := 13, ground := Ground.guard }], guard := some (13, true) }) rfl (fun K hK => ?_) AllReadyH.nil
        go_simp
        refine (HC5.out _ (HBr.out.trans (hHeld.mono HBr.out.size))).mono ?_; rintro e w5 ⟨rfl, hb⟩; have hHeld := hHeld.trans (hb.mono hHeld.size); clear hb
        go_wp2_with fail
        refine hK.out _ _ ?_ (fun hHeld => ?_)
        · (try dsimp only); first | assumption | exact (Below.refl _ _).drew | exact Below.drew (Below.refl _ _) | exact Below_drewN _ _ _ | exact Below.refl _ _ | (trace_state; fail)
        clear hK K
        try simp only [Act.put, List.setIfInBounds_toArray, List.set_cons_zero, List.set_cons_succ]
        refine wpAnyH_take (i := 17) (oi := { dst := some 55, op := Op.pick (Operand.tmp 51) (Operand.tmp 54) (Operand.const (Value.bool false)), type := 4, pos := _, after := #[{ on := 13, ground := Ground.data }, { on := 16, ground := Ground.data }], guard := none }) (v := ?_) rfl (by kernel_rfl) (by kernel_rfl) (by kernel_rfl) (fun _ _ _ h => h) (Or.inl ⟨by rfl, ?_⟩) (by assumption) ?_
        rotate_left
        · intro wt hSw; (try dsimp only at hSw); have a0 := cellB hSw a0 y1; have a1 := cellB hSw a1 y1; have a2 := cellB hSw a2 y1; have a3 := cellB hSw a3 y1; have b0 := cellB hSw b0 y2; have b1 := cellB hSw b1 y2; have b2' := cellB hSw b2' y2; have b3 := cellB hSw b3 y2; first | (go_simp; done) | (go_simp; with_reducible rfl) | (trace_state; fail)
        try simp only [Act.put, List.setIfInBounds_toArray, List.set_cons_zero, List.set_cons_succ]
        refine wpAnyH_take (i := 18) (oi := { dst := some 56, op := Op.move (Operand.tmp 55), type := 4, pos := _, after := #[{ on := 17, ground := Ground.data }, { on := 16, ground := Ground.chain }], guard := none }) (v := ?_) rfl (by kernel_rfl) (by kernel_rfl) (by kernel_rfl) (fun _ _ _ h => h) (Or.inl ⟨by rfl, ?_⟩) (by assumption) ?_
        rotate_left
        · intro wt hSw; (try dsimp only at hSw); have a0 := cellB hSw a0 y1; have a1 := cellB hSw a1 y1; have a2 := cellB hSw a2 y1; have a3 := cellB hSw a3 y1; have b0 := cellB hSw b0 y2; have b1 := cellB hSw b1 y2; have b2' := cellB hSw b2' y2; have b3 := cellB hSw b3 y2; first | (go_simp; done) | (go_simp; with_reducible rfl) | (trace_state; fail)
        try simp only [Act.put, List.setIfInBounds_toArray, List.set_cons_zero, List.set_cons_succ]
        refine wpAnyH_ready (rs := [19]) (by kernel_rfl) (by simp) ?_
        refine AllReadyH.cons (o := { dst := some 57, op := Op.call { callee := Callee.value (Operand.func 8), args := #[], argTypes := #[] }, type := 4, pos := _, after := #[{ on := 18, ground := Ground.chain }, { on := 18, ground := Ground.guard }], guard := some (18, true) }) rfl (fun K hK => ?_) AllReadyH.nil
        go_simp
        refine (hAw _).mono ?_; rintro e w6 ⟨rfl, hb⟩; have hHeld := hHeld.trans (hb.mono hHeld.size); clear hb
        go_wp2_with fail
        refine hK.out _ _ ?_ (fun hHeld => ?_)
        · (try dsimp only); first | assumption | exact (Below.refl _ _).drew | exact Below.drew (Below.refl _ _) | exact Below_drewN _ _ _ | exact Below.refl _ _ | (trace_state; fail)
        clear hK K
        try simp only [Act.put, List.setIfInBounds_toArray, List.set_cons_zero, List.set_cons_succ]
        refine wpAnyH_take (i := 20) (oi := { dst := some 58, op := Op.pick (Operand.tmp 56) (Operand.tmp 57) (Operand.const (Value.bool false)), type := 4, pos := _, after := #[{ on := 18, ground := Ground.data }, { on := 19, ground := Ground.data }], guard := none }) (v := ?_) rfl (by kernel_rfl) (by kernel_rfl) (by kernel_rfl) (fun _ _ _ h => h) (Or.inl ⟨by rfl, ?_⟩) (by assumption) ?_
        rotate_left
        · intro wt hSw; (try dsimp only at hSw); have a0 := cellB hSw a0 y1; have a1 := cellB hSw a1 y1; have a2 := cellB hSw a2 y1; have a3 := cellB hSw a3 y1; have b0 := cellB hSw b0 y2; have b1 := cellB hSw b1 y2; have b2' := cellB hSw b2' y2; have b3 := cellB hSw b3 y2; first | (go_simp; done) | (go_simp; with_reducible rfl) | (trace_state; fail)
        try simp only [Act.put, List.setIfInBounds_toArray, List.set_cons_zero, List.set_cons_succ]
        refine wpAnyH_take (i := 21) (oi := { dst := some 6, op := Op.assign (Operand.tmp 58), type := 4, pos := _, after := #[{ on := 20, ground := Ground.data }, { on := 19, ground := Ground.chain }, { on := 0, ground := Ground.phase }, { on := 1, ground := Ground.phase }, { on := 2, ground := Ground.phase }, { on := 3, ground := Ground.phase }, { on := 4, ground := Ground.phase }, { on := 5, ground := Ground.phase }, { on := 6, ground := Ground.phase }, { on := 7, ground := Ground.phase }, { on := 8, ground := Ground.phase }, { on := 9, ground := Ground.phase }, { on := 10, ground := Ground.phase }, { on := 11, ground := Ground.phase }, { on := 12, ground := Ground.phase }, { on := 13, ground := Ground.phase }, { on := 14, ground := Ground.phase }, { on := 15, ground := Ground.phase }, { on := 16, ground := Ground.phase }, { on := 17, ground := Ground.phase }, { on := 18, ground := Ground.phase }, { on := 19, ground := Ground.phase }, { on := 20, ground := Ground.phase }], guard := none }) (v := ?_) rfl (by kernel_rfl) (by kernel_rfl) (by kernel_rfl) (fun _ _ _ h => h) (Or.inl ⟨by rfl, ?_⟩) (by assumption) ?_
        rotate_left
        · intro wt hSw; (try dsimp only at hSw); have a0 := cellB hSw a0 y1; have a1 := cellB hSw a1 y1; have a2 := cellB hSw a2 y1; have a3 := cellB hSw a3 y1; have b0 := cellB hSw b0 y2; have b1 := cellB hSw b1 y2; have b2' := cellB hSw b2' y2; have b3 := cellB hSw b3 y2; first | (go_simp; done) | (go_simp; with_reducible rfl) | (trace_state; fail)
        try simp only [Act.put, List.setIfInBounds_toArray, List.set_cons_zero, List.set_cons_succ]
        refine wpAnyH_done (by kernel_rfl) ?_ _
        go_wp2_with fail
        go_ret
        exact ⟨rfl, HBr.out.trans (hHeld.mono HBr.out.size)⟩
end Go.Proofs.Ythanmbfelihkfaa
