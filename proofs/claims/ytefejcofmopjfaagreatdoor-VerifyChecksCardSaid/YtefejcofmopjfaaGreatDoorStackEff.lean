/- Layer 19: what an instruction takes, and leaves: the whole. -/
import Derived.Test.YtefejcofmopjfaaGreatDoorStackBlk
import Derived.Test.YtefejcofmopjfaaGreatDoorRefsThere
import Derived.Test.YtefejcofmopjfaaGreatDoorStackT26
import Derived.Test.YtefejcofmopjfaaGreatDoorStackTSh
import Derived.Test.YtefejcofmopjfaaGreatDoorStackTUn
import Derived.Test.YtefejcofmopjfaaGreatDoorStackTBin
namespace Go.Proofs.YtefejcofmopjfaaGreatDoor
open Go.RowKit
set_option linter.unusedSimpArgs false
set_option linter.unusedVariables false
theorem stack_ofType (o a b : Int) (w : World) (ho : 8 ≤ o ∧ o ≤ 26) (ha : I64 a) (hb : I64 b) (hT : AGoes w) : Calls Tryz.prog 121 #[.agg #[.int .i64 o, .int .i64 a, .int .i64 b]] w fun e w' => ∃ r1 r2, e = .returned (.tuple #[r1, r2]) ∧ RowR 1 intR w' r1 (tkT o a) ∧ RowR 1 intR w' r2 (lvT o a b) ∧ Below w.heap.size w w' := by
  unfold tkT lvT
  by_cases h1 : o = 26
  · subst h1; rw [if_pos rfl, if_pos rfl]; exact stack_ofType26 a b w ha hb
  rw [if_neg h1, if_neg h1]
  by_cases h2 : o = 18 ∨ o = 19
  · rw [if_pos h2, if_pos h2]; exact stack_ofTypeSh o a b w ha h2
  rw [if_neg h2, if_neg h2]
  by_cases h3 : o = 13 ∨ o = 17
  · have : aBinary o = false := by rcases h3 with rfl | rfl <;> decide
    rw [if_pos this, if_pos this]; exact stack_ofTypeUn o a b w ha h3
  · have : aBinary o = true := by unfold aBinary; apply decide_eq_true; omega
    rw [if_neg (by rw [this]; decide), if_neg (by rw [this]; decide)]; exact stack_ofTypeBin o a b w ha (by omega) (aResult_I64 ha) hT
set_option maxRecDepth 100000 in
set_option maxHeartbeats 8000000 in
theorem stack_effect (pc pv pb pu : Value) (p : Pr) (u o a b : Int) (w : World) (h : PrAt w pc pv pb pu p) (hT : TabR w) (hB : BTab w) (hf : wideP p = true) (h1 : oneP p u o a b = 0) (hia : I64 a) (hib : I64 b) :
    Calls Tryz.prog 104 #[.agg #[pc, pv, pb, pu], .int .i64 u, .agg #[.int .i64 o, .int .i64 a, .int .i64 b]] w fun e w' => ∃ r1 r2, e = .returned (.tuple #[r1, r2]) ∧ RowR 1 intR w' r1 (takesL p (unAt p u) o a b) ∧ RowR 1 intR w' r2 (leavesL p (unAt p u) o a b) ∧ Below w.heap.size w w' := by
  have cp := @cell_past
  obtain ⟨⟨f0, f1, f2, f3⟩, _, _, f4⟩ := wideP_is hf
  obtain ⟨hu, ho, ha, hb0, hty, hth⟩ := oneP_parts h1
  clear h1
  have HBl := Lib.hid (fun (g1 : a < p.blocks.length) (g2 : o = 35 ∨ o = 36 ∨ o = 37) W (hb : Below w.heap.size w W) => stack_ofBlock pc pv pb pu p o a b W (h.below hb) (hB.below hb) ha g1 g2)
  have HTy := Lib.hid (fun (g1 : 8 ≤ o ∧ o ≤ 26) W (hb : Below w.heap.size w W) => stack_ofType o a b W g1 hia hib (hT.ag.below hb))
  have HV := Lib.hid (fun (g1 : 2 ≤ o ∧ o ≤ 7) (t : Int) (g2 : I64 t) W => stack_ofVariable o t W g1 g2)
  have HP1 := Lib.hid (fun (W : World) (z : Int) (hz : I64 z) => stack_put (.slice none 0 0) (.slice (some ⟨W.heap.size, 0, none⟩) 1 1) [] [z] (W.alloc (.cells #[.int .i64 z] 3)) row_none (row_cells1 (by rw [cell_at rfl]; rfl) hz) (by simp) (by simp))
  have HP2 := Lib.hid (fun (W : World) (z y : Int) (hz : I64 z) (hy : I64 y) => stack_put (.slice none 0 0) (.slice (some ⟨W.heap.size, 0, none⟩) 2 2) [] [z, y] (W.alloc (.cells #[.int .i64 z, .int .i64 y] 3)) row_none (row_cells2 (by rw [cell_at rfl]; rfl) (by rw [cell_at rfl]; rfl) hz hy) (by simp) (by simp))
  have HSh : Hid (∀ W, Below w.heap.size w W → Calls Tryz.prog 110 #[.int .i64 o] W fun e w' => e = .returned (.tuple #[.int .i64 (oA o), .int .i64 (oB o)]) ∧ Below W.heap.size W w') := Lib.hid (fun W hb => (op_ShapeS o W (hT.st.below hb)).mono (fun e w' ⟨h1, m, h2⟩ => ⟨h1, h2 ▸ Below_drewN _ _ _⟩))
  have hcs := h.cs
  have hv := h.vs
  have hbk := h.bs
  have hun := h.us
  obtain ⟨s0, t0, rfl⟩ := row_get h.cs
  obtain ⟨s1, t1, rfl⟩ := row_get h.vs
  obtain ⟨s2, t2, rfl⟩ := row_get h.bs
  obtain ⟨s3, t3, rfl⟩ := row_get h.us
  obtain ⟨W0, hW0⟩ : ∃ W0, W0 = (w.alloc (.cells #[.slice s0 p.consts.length t0, .slice s1 p.vars.length t1, .slice s2 p.blocks.length t2, .slice s3 p.units.length t3] 27)).alloc (.cells #[.int .i64 o, .int .i64 a, .int .i64 b] 40) := ⟨_, rfl⟩
  obtain ⟨k1, k2, k3, k4⟩ := boxed2 w [.slice s0 p.consts.length t0, .slice s1 p.vars.length t1, .slice s2 p.blocks.length t2, .slice s3 p.units.length t3] [.int .i64 o, .int .i64 a, .int .i64 b] 27 40 (W' := W0) (by rw [hW0]; exact Below.refl _ _)
  have HW0 := Lib.hid hW0
  clear hW0
  have K1 := Lib.hid k1
  have K2 := Lib.hid k2
  have z1 : w.heap.size < W0.heap.size := by omega
  clear k1 k2 h hT hB
  obtain ⟨i, rfl⟩ := Int.eq_ofNat_of_zero_le hu.1
  obtain ⟨ka, rfl⟩ := Int.eq_ofNat_of_zero_le ha
  obtain ⟨x, hx⟩ := get_some (L := p.units) (n := i) (by omega)
  have hux : unAt p i = x := by unfold unAt; simp [List.getD, hx]
  rw [hux] at hth ⊢
  have hxf := f4 x (List.mem_of_getElem? hx)
  have HTh := Lib.hid hth
  have HX := Lib.hid hx
  have r0 : ((i : Int) < (p.units.length : Int)) = True := eq_true hu.2
  clear hth hty hux hx
  by_cases d1 : o = 1
  · subst d1
    have g1 : ka < p.consts.length := by have := HTh.out; rw [thereP_1 (show oA 1 = 1 by decide)] at this; have := of_decide_eq_true this; omega
    obtain ⟨y, hy⟩ := get_some g1
    have hcy : cAt p ka = y.1 := by unfold cAt; simp [List.getD, hy]
    rw [show takesL p x 1 ka b = [] from rfl, show leavesL p x 1 ka b = [cAt p ka] from rfl, hcy]
    obtain ⟨bb, off, rfl, hbw, hc⟩ := const_at hcs (k := ka) g1
    obtain ⟨cc, _, hyI, _⟩ := hc ka y hy
    have r1 : ((ka : Int) < (p.consts.length : Int)) = True := eq_true (by omega)
    have HyI := Lib.hid hyI
    generalize y.1 = yv at *
    clear hc hy hcy hcs hv hbk hun g1 hyI f4 hxf
    generalize p.consts.length = n0 at *
    generalize p.vars.length = n1 at *
    generalize p.blocks.length = n2 at *
    generalize p.units.length = n3 at *
    go_enter Tryz.func104, Tryz.ntmps104
    go_wp2_with fail
    refine (HSh.out _ (by (repeat' (first | (with_reducible exact Below.refl _ _) | (with_reducible assumption) | (with_reducible refine below_drewN ?_ _) | (with_reducible refine Below.alloc ?_ ?_ _) | (with_reducible refine Below.drew ?_) | (with_reducible refine Below.setCell ?_ ?_ _) | go_size)))).mono ?_; rintro e w1 ⟨rfl, hb1⟩
    rw [← HW0.out] at hb1
    rw [show oA 1 = 1 from rfl, show oB 1 = 0 from rfl]
    have hb1w := k4.trans (hb1.mono k4.size)
    have y1 := Nat.lt_of_lt_of_le z1 hb1.size
    have y2 := Nat.lt_of_lt_of_le k3 hb1.size
    have e00 := (K1.out.keep z1 hb1) 0 _ rfl
    have e01 := (K1.out.keep z1 hb1) 1 _ rfl
    have e02 := (K1.out.keep z1 hb1) 2 _ rfl
    have e03 := (K1.out.keep z1 hb1) 3 _ rfl
    have e20 := (K2.out.keep k3 hb1) 0 _ rfl
    have e21 := (K2.out.keep k3 hb1) 1 _ rfl
    have e22 := (K2.out.keep k3 hb1) 2 _ rfl
    have cc1 := (hb1w.cell (p := ⟨bb, off + ka * 2, none⟩) hbw).trans cc
    go_wp2_with fail
    refine (HP1.out _ yv HyI.out).mono ?_; rintro e w2 ⟨r, rfl, hr, hb2⟩
    have hb2 : Below w1.heap.size w1 w2 := Below.trans (by (repeat' (first | (with_reducible exact Below.refl _ _) | (with_reducible assumption) | (with_reducible refine below_drewN ?_ _) | (with_reducible refine Below.alloc ?_ ?_ _) | (with_reducible refine Below.drew ?_) | (with_reducible refine Below.setCell ?_ ?_ _) | go_size))) (hb2.mono (by simp))
    have Hr := Lib.hid hr
    clear hr
    go_wp2_with fail
    go_returns
    exact ⟨_, _, rfl, row_none, Hr.out, hb1w.trans (hb2.mono hb1w.size)⟩
  by_cases dv : o = 2 ∨ o = 3 ∨ o = 6 ∨ o = 7
  · have h2 : oA o = 2 := by rcases dv with rfl | rfl | rfl | rfl <;> decide
    have g1 : ka < p.vars.length := by have := HTh.out; rw [thereP_2 h2] at this; have := (of_decide_eq_true this).1; omega
    obtain ⟨y, hy⟩ := get_some g1
    have hcy : tAt p ka = y.t := by unfold tAt; simp [List.getD, hy]
    have hvt : takesL p x o ka b = tkV o (tAt p ka) ∧ leavesL p x o ka b = lvV o (tAt p ka) := by rcases dv with rfl | rfl | rfl | rfl <;> exact ⟨rfl, rfl⟩
    rw [hvt.1, hvt.2, hcy]
    obtain ⟨bb, off, rfl, hbw, hc⟩ := var_at hv (k := ka) g1
    obtain ⟨_, cc, _, _, _, _, hyI, _⟩ := hc ka y hy
    have r1 : ((ka : Int) < (p.vars.length : Int)) = True := eq_true (by omega)
    have HyI := Lib.hid hyI
    have HVv := Lib.hid (HV.out (by omega))
    generalize y.t = yv at *
    clear hc hy hcy hcs hv hbk hun g1 hyI f4 hxf hvt h2
    generalize p.consts.length = n0 at *
    generalize p.vars.length = n1 at *
    generalize p.blocks.length = n2 at *
    generalize p.units.length = n3 at *
    rcases dv with rfl | rfl | rfl | rfl
    all_goals
      go_enter Tryz.func104, Tryz.ntmps104
      go_wp2_with fail
      refine (HSh.out _ (by (repeat' (first | (with_reducible exact Below.refl _ _) | (with_reducible assumption) | (with_reducible refine below_drewN ?_ _) | (with_reducible refine Below.alloc ?_ ?_ _) | (with_reducible refine Below.drew ?_) | (with_reducible refine Below.setCell ?_ ?_ _) | go_size)))).mono ?_; rintro e w1 ⟨rfl, hb1⟩
      rw [← HW0.out] at hb1
      first | rw [show oA 2 = 2 from rfl] | rw [show oA 3 = 2 from rfl] | rw [show oA 6 = 2 from rfl] | rw [show oA 7 = 2 from rfl]
      have hb1w := k4.trans (hb1.mono k4.size)
      have y1 := Nat.lt_of_lt_of_le z1 hb1.size
      have y2 := Nat.lt_of_lt_of_le k3 hb1.size
      have e00 := (K1.out.keep z1 hb1) 0 _ rfl
      have e01 := (K1.out.keep z1 hb1) 1 _ rfl
      have e02 := (K1.out.keep z1 hb1) 2 _ rfl
      have e03 := (K1.out.keep z1 hb1) 3 _ rfl
      have e20 := (K2.out.keep k3 hb1) 0 _ rfl
      have e21 := (K2.out.keep k3 hb1) 1 _ rfl
      have e22 := (K2.out.keep k3 hb1) 2 _ rfl
      have cc1 := (hb1w.cell (p := ⟨bb, off + ka * 5 + 1, none⟩) hbw).trans cc
      have yb : bb < w1.heap.size := Nat.lt_of_lt_of_le hbw hb1w.size
      go_wp2_with fail
      refine wp_region_held_drew (S := (fun w' => Below w1.heap.size w1 w')) (by kernel_rfl) ?_ (fun hHeld => ?_)
      · (try dsimp only); first | assumption | exact Below.alloc hHeld hHeld.size _ | exact (Below.refl _ _).drew | exact Below.drew (Below.refl _ _) | exact Below_drewN _ _ _ | exact Below.refl _ _ | (trace_state; fail)
      refine wpAnyH_take (i := 0) (oi := { dst := some 31, op := Op.fieldAddr 40 (Operand.tmp 5) 0, type := 0, pos := _, after := #[], guard := none }) (v := ?_) rfl (by kernel_rfl) (by kernel_rfl) (by kernel_rfl) (fun _ _ _ h => h) (Or.inl ⟨by rfl, ?_⟩) (by assumption) ?_
      rotate_left
      · intro wt hSw; (try dsimp only at hSw); have e01 := cellB hSw e01 y1; have e20 := cellB hSw e20 y2; have e21 := cellB hSw e21 y2; have cc1 := cellB hSw cc1 yb; first | (go_simp; done) | (go_simp; with_reducible rfl) | (trace_state; fail)
      try simp only [Act.put, List.setIfInBounds_toArray, List.set_cons_zero, List.set_cons_succ]
      refine wpAnyH_take (i := 1) (oi := { dst := some 32, op := Op.load 3 (Operand.tmp 31), type := 3, pos := _, after := #[{ on := 0, ground := Ground.data }], guard := none }) (v := ?_) rfl (by kernel_rfl) (by kernel_rfl) (by kernel_rfl) (fun _ _ _ h => h) (Or.inl ⟨by rfl, ?_⟩) (by assumption) ?_
      rotate_left
      · intro wt hSw; (try dsimp only at hSw); have e01 := cellB hSw e01 y1; have e20 := cellB hSw e20 y2; have e21 := cellB hSw e21 y2; have cc1 := cellB hSw cc1 yb; first | (go_simp; done) | (go_simp; with_reducible rfl) | (trace_state; fail)
      try simp only [Act.put, List.setIfInBounds_toArray, List.set_cons_zero, List.set_cons_succ]
      refine wpAnyH_take (i := 2) (oi := { dst := some 33, op := Op.fieldAddr 27 (Operand.tmp 3) 1, type := 0, pos := _, after := #[], guard := none }) (v := ?_) rfl (by kernel_rfl) (by kernel_rfl) (by kernel_rfl) (fun _ _ _ h => h) (Or.inl ⟨by rfl, ?_⟩) (by assumption) ?_
      rotate_left
      · intro wt hSw; (try dsimp only at hSw); have e01 := cellB hSw e01 y1; have e20 := cellB hSw e20 y2; have e21 := cellB hSw e21 y2; have cc1 := cellB hSw cc1 yb; first | (go_simp; done) | (go_simp; with_reducible rfl) | (trace_state; fail)
      try simp only [Act.put, List.setIfInBounds_toArray, List.set_cons_zero, List.set_cons_succ]
      refine wpAnyH_take (i := 3) (oi := { dst := some 34, op := Op.load 23 (Operand.tmp 33), type := 23, pos := _, after := #[{ on := 2, ground := Ground.data }], guard := none }) (v := ?_) rfl (by kernel_rfl) (by kernel_rfl) (by kernel_rfl) (fun _ _ _ h => h) (Or.inl ⟨by rfl, ?_⟩) (by assumption) ?_
      rotate_left
      · intro wt hSw; (try dsimp only at hSw); have e01 := cellB hSw e01 y1; have e20 := cellB hSw e20 y2; have e21 := cellB hSw e21 y2; have cc1 := cellB hSw cc1 yb; first | (go_simp; done) | (go_simp; with_reducible rfl) | (trace_state; fail)
      try simp only [Act.put, List.setIfInBounds_toArray, List.set_cons_zero, List.set_cons_succ]
      refine wpAnyH_take (i := 4) (oi := { dst := some 35, op := Op.fieldAddr 40 (Operand.tmp 5) 1, type := 0, pos := _, after := #[], guard := none }) (v := ?_) rfl (by kernel_rfl) (by kernel_rfl) (by kernel_rfl) (fun _ _ _ h => h) (Or.inl ⟨by rfl, ?_⟩) (by assumption) ?_
      rotate_left
      · intro wt hSw; (try dsimp only at hSw); have e01 := cellB hSw e01 y1; have e20 := cellB hSw e20 y2; have e21 := cellB hSw e21 y2; have cc1 := cellB hSw cc1 yb; first | (go_simp; done) | (go_simp; with_reducible rfl) | (trace_state; fail)
      try simp only [Act.put, List.setIfInBounds_toArray, List.set_cons_zero, List.set_cons_succ]
      refine wpAnyH_take (i := 5) (oi := { dst := some 36, op := Op.load 3 (Operand.tmp 35), type := 3, pos := _, after := #[{ on := 4, ground := Ground.data }], guard := none }) (v := ?_) rfl (by kernel_rfl) (by kernel_rfl) (by kernel_rfl) (fun _ _ _ h => h) (Or.inl ⟨by rfl, ?_⟩) (by assumption) ?_
      rotate_left
      · intro wt hSw; (try dsimp only at hSw); have e01 := cellB hSw e01 y1; have e20 := cellB hSw e20 y2; have e21 := cellB hSw e21 y2; have cc1 := cellB hSw cc1 yb; first | (go_simp; done) | (go_simp; with_reducible rfl) | (trace_state; fail)
      try simp only [Act.put, List.setIfInBounds_toArray, List.set_cons_zero, List.set_cons_succ]
      refine wpAnyH_take (i := 6) (oi := { dst := some 37, op := Op.indexAddr 23 (Operand.tmp 34) (Operand.tmp 36), type := 0, pos := _, after := #[{ on := 3, ground := Ground.data }, { on := 5, ground := Ground.data }], guard := none }) (v := ?_) rfl (by kernel_rfl) (by kernel_rfl) (by kernel_rfl) (fun _ _ _ h => h) (Or.inl ⟨by rfl, ?_⟩) (by assumption) ?_
      rotate_left
      · intro wt hSw; (try dsimp only at hSw); have e01 := cellB hSw e01 y1; have e20 := cellB hSw e20 y2; have e21 := cellB hSw e21 y2; have cc1 := cellB hSw cc1 yb; first | (go_simp; done) | (go_simp; with_reducible rfl) | (trace_state; fail)
      try simp only [Act.put, List.setIfInBounds_toArray, List.set_cons_zero, List.set_cons_succ]
      refine wpAnyH_take (i := 7) (oi := { dst := some 38, op := Op.fieldAddr 42 (Operand.tmp 37) 1, type := 0, pos := _, after := #[{ on := 6, ground := Ground.data }], guard := none }) (v := ?_) rfl (by kernel_rfl) (by kernel_rfl) (by kernel_rfl) (fun _ _ _ h => h) (Or.inl ⟨by rfl, ?_⟩) (by assumption) ?_
      rotate_left
      · intro wt hSw; (try dsimp only at hSw); have e01 := cellB hSw e01 y1; have e20 := cellB hSw e20 y2; have e21 := cellB hSw e21 y2; have cc1 := cellB hSw cc1 yb; first | (go_simp; done) | (go_simp; with_reducible rfl) | (trace_state; fail)
      try simp only [Act.put, List.setIfInBounds_toArray, List.set_cons_zero, List.set_cons_succ]
      refine wpAnyH_take (i := 8) (oi := { dst := some 39, op := Op.load 3 (Operand.tmp 38), type := 3, pos := _, after := #[{ on := 7, ground := Ground.data }], guard := none }) (v := ?_) rfl (by kernel_rfl) (by kernel_rfl) (by kernel_rfl) (fun _ _ _ h => h) (Or.inl ⟨by rfl, ?_⟩) (by assumption) ?_
      rotate_left
      · intro wt hSw; (try dsimp only at hSw); have e01 := cellB hSw e01 y1; have e20 := cellB hSw e20 y2; have e21 := cellB hSw e21 y2; have cc1 := cellB hSw cc1 yb; first | (go_simp; done) | (go_simp; with_reducible rfl) | (trace_state; fail)
      try simp only [Act.put, List.setIfInBounds_toArray, List.set_cons_zero, List.set_cons_succ]
      refine wpAnyH_ready (rs := [9]) (by kernel_rfl) (by simp) ?_
      refine AllReadyH.cons (o := { dst := some 40, op := Op.call { callee := Callee.value (Operand.func 119), args := #[Operand.tmp 32, Operand.tmp 39], argTypes := #[3, 3] }, type := 142, pos := _, after := #[{ on := 1, ground := Ground.data }, { on := 8, ground := Ground.data }], guard := none }) rfl (fun K hK => ?_) AllReadyH.nil
      go_simp
      refine (HVv.out yv HyI.out _).mono ?_; rintro e w2 ⟨r1, r2, rfl, hr1, hr2, hb2⟩; have Hr1 := Lib.hid hr1; have Hr2 := Lib.hid hr2; have hHeld := hHeld.trans (hb2.mono hHeld.size); clear hb2 hr1 hr2
      go_wp2_with fail
      refine hK.out _ _ ?_ (fun hHeld => ?_)
      · (try dsimp only); first | assumption | exact Below.alloc hHeld hHeld.size _ | exact (Below.refl _ _).drew | exact Below.drew (Below.refl _ _) | exact Below_drewN _ _ _ | exact Below.refl _ _ | (trace_state; fail)
      clear hK K
      try simp only [Act.put, List.setIfInBounds_toArray, List.set_cons_zero, List.set_cons_succ]
      refine wpAnyH_take (i := 10) (oi := { dst := some 41, op := Op.extract (Operand.tmp 40) 0, type := 35, pos := _, after := #[{ on := 9, ground := Ground.data }], guard := none }) (v := ?_) rfl (by kernel_rfl) (by kernel_rfl) (by kernel_rfl) (fun _ _ _ h => h) (Or.inl ⟨by rfl, ?_⟩) (by assumption) ?_
      rotate_left
      · intro wt hSw; (try dsimp only at hSw); have e01 := cellB hSw e01 y1; have e20 := cellB hSw e20 y2; have e21 := cellB hSw e21 y2; have cc1 := cellB hSw cc1 yb; first | (go_simp; done) | (go_simp; with_reducible rfl) | (trace_state; fail)
      try simp only [Act.put, List.setIfInBounds_toArray, List.set_cons_zero, List.set_cons_succ]
      refine wpAnyH_take (i := 11) (oi := { dst := some 42, op := Op.extract (Operand.tmp 40) 1, type := 35, pos := _, after := #[{ on := 9, ground := Ground.data }], guard := none }) (v := ?_) rfl (by kernel_rfl) (by kernel_rfl) (by kernel_rfl) (fun _ _ _ h => h) (Or.inl ⟨by rfl, ?_⟩) (by assumption) ?_
      rotate_left
      · intro wt hSw; (try dsimp only at hSw); have e01 := cellB hSw e01 y1; have e20 := cellB hSw e20 y2; have e21 := cellB hSw e21 y2; have cc1 := cellB hSw cc1 yb; first | (go_simp; done) | (go_simp; with_reducible rfl) | (trace_state; fail)
      try simp only [Act.put, List.setIfInBounds_toArray, List.set_cons_zero, List.set_cons_succ]
      refine wpAnyH_take (i := 12) (oi := { dst := some 6, op := Op.assign (Operand.tmp 41), type := 35, pos := _, after := #[{ on := 10, ground := Ground.data }, { on := 9, ground := Ground.chain }, { on := 0, ground := Ground.phase }, { on := 1, ground := Ground.phase }, { on := 2, ground := Ground.phase }, { on := 3, ground := Ground.phase }, { on := 4, ground := Ground.phase }, { on := 5, ground := Ground.phase }, { on := 6, ground := Ground.phase }, { on := 7, ground := Ground.phase }, { on := 8, ground := Ground.phase }, { on := 9, ground := Ground.phase }, { on := 10, ground := Ground.phase }, { on := 11, ground := Ground.phase }], guard := none }) (v := ?_) rfl (by kernel_rfl) (by kernel_rfl) (by kernel_rfl) (fun _ _ _ h => h) (Or.inl ⟨by rfl, ?_⟩) (by assumption) ?_
      rotate_left
      · intro wt hSw; (try dsimp only at hSw); have e01 := cellB hSw e01 y1; have e20 := cellB hSw e20 y2; have e21 := cellB hSw e21 y2; have cc1 := cellB hSw cc1 yb; first | (go_simp; done) | (go_simp; with_reducible rfl) | (trace_state; fail)
      try simp only [Act.put, List.setIfInBounds_toArray, List.set_cons_zero, List.set_cons_succ]
      refine wpAnyH_take (i := 13) (oi := { dst := some 7, op := Op.assign (Operand.tmp 42), type := 35, pos := _, after := #[{ on := 11, ground := Ground.data }, { on := 12, ground := Ground.chain }, { on := 0, ground := Ground.phase }, { on := 1, ground := Ground.phase }, { on := 2, ground := Ground.phase }, { on := 3, ground := Ground.phase }, { on := 4, ground := Ground.phase }, { on := 5, ground := Ground.phase }, { on := 6, ground := Ground.phase }, { on := 7, ground := Ground.phase }, { on := 8, ground := Ground.phase }, { on := 9, ground := Ground.phase }, { on := 10, ground := Ground.phase }, { on := 11, ground := Ground.phase }, { on := 12, ground := Ground.phase }], guard := none }) (v := ?_) rfl (by kernel_rfl) (by kernel_rfl) (by kernel_rfl) (fun _ _ _ h => h) (Or.inl ⟨by rfl, ?_⟩) (by assumption) ?_
      rotate_left
      · intro wt hSw; (try dsimp only at hSw); have e01 := cellB hSw e01 y1; have e20 := cellB hSw e20 y2; have e21 := cellB hSw e21 y2; have cc1 := cellB hSw cc1 yb; first | (go_simp; done) | (go_simp; with_reducible rfl) | (trace_state; fail)
      try simp only [Act.put, List.setIfInBounds_toArray, List.set_cons_zero, List.set_cons_succ]
      refine wpAnyH_done (by kernel_rfl) ?_ _
      have hB2 := hb1w.trans (hHeld.mono hb1w.size)
      go_wp2_with fail
      go_returns
      exact ⟨_, _, rfl, Hr1.out, Hr2.out, hB2⟩
  by_cases ds : o = 4 ∨ o = 5
  · have h3 : oA o = 3 := by rcases ds with rfl | rfl <;> decide
    have g1 : (ka : Int) < slotsN x := by have := HTh.out; rw [thereP_3 h3] at this; exact of_decide_eq_true this
    have hvt : takesL p x o ka b = tkV o (slotAt x ka) ∧ leavesL p x o ka b = lvV o (slotAt x ka) := by rcases ds with rfl | rfl <;> exact ⟨rfl, rfl⟩
    rw [hvt.1, hvt.2]
    obtain ⟨b3, off3, rfl, hbw3, hc3⟩ := unit_at hun (k := i) (lt_of_get HX.out)
    obtain ⟨u1, u3, u4, c0, c1, c2, c3, c4, hU⟩ := hc3 i x HX.out
    have HSl := Lib.hid (fun W (hb : Below w.heap.size w W) => stack_slot u1 u3 u4 x ka W (hU.below hb) hxf (by omega) g1)
    have HyI := Lib.hid (slotAt_I64 hU ka)
    have HVv := Lib.hid (HV.out (by omega))
    generalize slotAt x ka = sv at *
    clear hc3 hcs hv hbk hun g1 f4 hxf hvt h3 hU
    generalize p.consts.length = n0 at *
    generalize p.vars.length = n1 at *
    generalize p.blocks.length = n2 at *
    generalize p.units.length = n3 at *
    rcases ds with rfl | rfl
    all_goals
      go_enter Tryz.func104, Tryz.ntmps104
      go_wp2_with fail
      refine (HSh.out _ (by (repeat' (first | (with_reducible exact Below.refl _ _) | (with_reducible assumption) | (with_reducible refine below_drewN ?_ _) | (with_reducible refine Below.alloc ?_ ?_ _) | (with_reducible refine Below.drew ?_) | (with_reducible refine Below.setCell ?_ ?_ _) | go_size)))).mono ?_; rintro e w1 ⟨rfl, hb1⟩
      rw [← HW0.out] at hb1
      first | rw [show oA 4 = 3 from rfl] | rw [show oA 5 = 3 from rfl]
      have hb1w := k4.trans (hb1.mono k4.size)
      have y1 := Nat.lt_of_lt_of_le z1 hb1.size
      have y2 := Nat.lt_of_lt_of_le k3 hb1.size
      have e00 := (K1.out.keep z1 hb1) 0 _ rfl
      have e01 := (K1.out.keep z1 hb1) 1 _ rfl
      have e02 := (K1.out.keep z1 hb1) 2 _ rfl
      have e03 := (K1.out.keep z1 hb1) 3 _ rfl
      have e20 := (K2.out.keep k3 hb1) 0 _ rfl
      have e21 := (K2.out.keep k3 hb1) 1 _ rfl
      have e22 := (K2.out.keep k3 hb1) 2 _ rfl
      have yb : b3 < w1.heap.size := Nat.lt_of_lt_of_le hbw3 hb1w.size
      have C0 := (hb1w.cell (p := ⟨b3, off3 + i * 5, none⟩) hbw3).trans c0
      have C1 := (hb1w.cell (p := ⟨b3, off3 + i * 5 + 1, none⟩) hbw3).trans c1
      have C2 := (hb1w.cell (p := ⟨b3, off3 + i * 5 + 2, none⟩) hbw3).trans c2
      have C3 := (hb1w.cell (p := ⟨b3, off3 + i * 5 + 3, none⟩) hbw3).trans c3
      have C4 := (hb1w.cell (p := ⟨b3, off3 + i * 5 + 4, none⟩) hbw3).trans c4
      go_wp2_with fail
      refine wp_region_held_drew (S := (fun w' => Below w1.heap.size w1 w')) (by kernel_rfl) ?_ (fun hHeld => ?_)
      · (try dsimp only); first | assumption | exact Below.alloc hHeld hHeld.size _ | exact (Below.refl _ _).drew | exact Below.drew (Below.refl _ _) | exact Below_drewN _ _ _ | exact Below.refl _ _ | (trace_state; fail)
      refine wpAnyH_take (i := 0) (oi := { dst := some 45, op := Op.fieldAddr 40 (Operand.tmp 5) 0, type := 0, pos := _, after := #[], guard := none }) (v := ?_) rfl (by kernel_rfl) (by kernel_rfl) (by kernel_rfl) (fun _ _ _ h => h) (Or.inl ⟨by rfl, ?_⟩) (by assumption) ?_
      rotate_left
      · intro wt hSw; (try dsimp only at hSw); have e03 := cellB hSw e03 y1; have e20 := cellB hSw e20 y2; have e21 := cellB hSw e21 y2; have C0 := cellB hSw C0 yb; have C1 := cellB hSw C1 yb; have C2 := cellB hSw C2 yb; have C3 := cellB hSw C3 yb; have C4 := cellB hSw C4 yb; first | (go_simp; done) | (go_simp; with_reducible rfl) | (trace_state; fail)
      try simp only [Act.put, List.setIfInBounds_toArray, List.set_cons_zero, List.set_cons_succ]
      refine wpAnyH_take (i := 1) (oi := { dst := some 46, op := Op.load 3 (Operand.tmp 45), type := 3, pos := _, after := #[{ on := 0, ground := Ground.data }], guard := none }) (v := ?_) rfl (by kernel_rfl) (by kernel_rfl) (by kernel_rfl) (fun _ _ _ h => h) (Or.inl ⟨by rfl, ?_⟩) (by assumption) ?_
      rotate_left
      · intro wt hSw; (try dsimp only at hSw); have e03 := cellB hSw e03 y1; have e20 := cellB hSw e20 y2; have e21 := cellB hSw e21 y2; have C0 := cellB hSw C0 yb; have C1 := cellB hSw C1 yb; have C2 := cellB hSw C2 yb; have C3 := cellB hSw C3 yb; have C4 := cellB hSw C4 yb; first | (go_simp; done) | (go_simp; with_reducible rfl) | (trace_state; fail)
      try simp only [Act.put, List.setIfInBounds_toArray, List.set_cons_zero, List.set_cons_succ]
      refine wpAnyH_take (i := 2) (oi := { dst := some 47, op := Op.fieldAddr 27 (Operand.tmp 3) 3, type := 0, pos := _, after := #[], guard := none }) (v := ?_) rfl (by kernel_rfl) (by kernel_rfl) (by kernel_rfl) (fun _ _ _ h => h) (Or.inl ⟨by rfl, ?_⟩) (by assumption) ?_
      rotate_left
      · intro wt hSw; (try dsimp only at hSw); have e03 := cellB hSw e03 y1; have e20 := cellB hSw e20 y2; have e21 := cellB hSw e21 y2; have C0 := cellB hSw C0 yb; have C1 := cellB hSw C1 yb; have C2 := cellB hSw C2 yb; have C3 := cellB hSw C3 yb; have C4 := cellB hSw C4 yb; first | (go_simp; done) | (go_simp; with_reducible rfl) | (trace_state; fail)
      try simp only [Act.put, List.setIfInBounds_toArray, List.set_cons_zero, List.set_cons_succ]
      refine wpAnyH_take (i := 3) (oi := { dst := some 48, op := Op.load 25 (Operand.tmp 47), type := 25, pos := _, after := #[{ on := 2, ground := Ground.data }], guard := none }) (v := ?_) rfl (by kernel_rfl) (by kernel_rfl) (by kernel_rfl) (fun _ _ _ h => h) (Or.inl ⟨by rfl, ?_⟩) (by assumption) ?_
      rotate_left
      · intro wt hSw; (try dsimp only at hSw); have e03 := cellB hSw e03 y1; have e20 := cellB hSw e20 y2; have e21 := cellB hSw e21 y2; have C0 := cellB hSw C0 yb; have C1 := cellB hSw C1 yb; have C2 := cellB hSw C2 yb; have C3 := cellB hSw C3 yb; have C4 := cellB hSw C4 yb; first | (go_simp; done) | (go_simp; with_reducible rfl) | (trace_state; fail)
      try simp only [Act.put, List.setIfInBounds_toArray, List.set_cons_zero, List.set_cons_succ]
      refine wpAnyH_take (i := 4) (oi := { dst := some 49, op := Op.move (Operand.tmp 1), type := 3, pos := _, after := #[], guard := none }) (v := ?_) rfl (by kernel_rfl) (by kernel_rfl) (by kernel_rfl) (fun _ _ _ h => h) (Or.inl ⟨by rfl, ?_⟩) (by assumption) ?_
      rotate_left
      · intro wt hSw; (try dsimp only at hSw); have e03 := cellB hSw e03 y1; have e20 := cellB hSw e20 y2; have e21 := cellB hSw e21 y2; have C0 := cellB hSw C0 yb; have C1 := cellB hSw C1 yb; have C2 := cellB hSw C2 yb; have C3 := cellB hSw C3 yb; have C4 := cellB hSw C4 yb; first | (go_simp; done) | (go_simp; with_reducible rfl) | (trace_state; fail)
      try simp only [Act.put, List.setIfInBounds_toArray, List.set_cons_zero, List.set_cons_succ]
      refine wpAnyH_take (i := 5) (oi := { dst := some 50, op := Op.indexAddr 25 (Operand.tmp 48) (Operand.tmp 49), type := 0, pos := _, after := #[{ on := 3, ground := Ground.data }, { on := 4, ground := Ground.data }], guard := none }) (v := ?_) rfl (by kernel_rfl) (by kernel_rfl) (by kernel_rfl) (fun _ _ _ h => h) (Or.inl ⟨by rfl, ?_⟩) (by assumption) ?_
      rotate_left
      · intro wt hSw; (try dsimp only at hSw); have e03 := cellB hSw e03 y1; have e20 := cellB hSw e20 y2; have e21 := cellB hSw e21 y2; have C0 := cellB hSw C0 yb; have C1 := cellB hSw C1 yb; have C2 := cellB hSw C2 yb; have C3 := cellB hSw C3 yb; have C4 := cellB hSw C4 yb; first | (go_simp; done) | (go_simp; with_reducible rfl) | (trace_state; fail)
      try simp only [Act.put, List.setIfInBounds_toArray, List.set_cons_zero, List.set_cons_succ]
      refine wpAnyH_take (i := 6) (oi := { dst := some 51, op := Op.load 38 (Operand.tmp 50), type := 38, pos := _, after := #[{ on := 5, ground := Ground.data }], guard := none }) (v := ?_) rfl (by kernel_rfl) (by kernel_rfl) (by kernel_rfl) (fun _ _ _ h => h) (Or.inl ⟨by rfl, ?_⟩) (by assumption) ?_
      rotate_left
      · intro wt hSw; (try dsimp only at hSw); have e03 := cellB hSw e03 y1; have e20 := cellB hSw e20 y2; have e21 := cellB hSw e21 y2; have C0 := cellB hSw C0 yb; have C1 := cellB hSw C1 yb; have C2 := cellB hSw C2 yb; have C3 := cellB hSw C3 yb; have C4 := cellB hSw C4 yb; first | (go_simp; done) | (go_simp; with_reducible rfl) | (trace_state; fail)
      try simp only [Act.put, List.setIfInBounds_toArray, List.set_cons_zero, List.set_cons_succ]
      refine wpAnyH_take (i := 7) (oi := { dst := some 52, op := Op.fieldAddr 40 (Operand.tmp 5) 1, type := 0, pos := _, after := #[], guard := none }) (v := ?_) rfl (by kernel_rfl) (by kernel_rfl) (by kernel_rfl) (fun _ _ _ h => h) (Or.inl ⟨by rfl, ?_⟩) (by assumption) ?_
      rotate_left
      · intro wt hSw; (try dsimp only at hSw); have e03 := cellB hSw e03 y1; have e20 := cellB hSw e20 y2; have e21 := cellB hSw e21 y2; have C0 := cellB hSw C0 yb; have C1 := cellB hSw C1 yb; have C2 := cellB hSw C2 yb; have C3 := cellB hSw C3 yb; have C4 := cellB hSw C4 yb; first | (go_simp; done) | (go_simp; with_reducible rfl) | (trace_state; fail)
      try simp only [Act.put, List.setIfInBounds_toArray, List.set_cons_zero, List.set_cons_succ]
      refine wpAnyH_take (i := 8) (oi := { dst := some 53, op := Op.load 3 (Operand.tmp 52), type := 3, pos := _, after := #[{ on := 7, ground := Ground.data }], guard := none }) (v := ?_) rfl (by kernel_rfl) (by kernel_rfl) (by kernel_rfl) (fun _ _ _ h => h) (Or.inl ⟨by rfl, ?_⟩) (by assumption) ?_
      rotate_left
      · intro wt hSw; (try dsimp only at hSw); have e03 := cellB hSw e03 y1; have e20 := cellB hSw e20 y2; have e21 := cellB hSw e21 y2; have C0 := cellB hSw C0 yb; have C1 := cellB hSw C1 yb; have C2 := cellB hSw C2 yb; have C3 := cellB hSw C3 yb; have C4 := cellB hSw C4 yb; first | (go_simp; done) | (go_simp; with_reducible rfl) | (trace_state; fail)
      try simp only [Act.put, List.setIfInBounds_toArray, List.set_cons_zero, List.set_cons_succ]
      refine wpAnyH_ready (rs := [9]) (by kernel_rfl) (by simp) ?_
      refine AllReadyH.cons (o := { dst := some 54, op := Op.call { callee := Callee.value (Operand.func 120), args := #[Operand.tmp 51, Operand.tmp 53], argTypes := #[38, 3] }, type := 3, pos := _, after := #[{ on := 6, ground := Ground.data }, { on := 8, ground := Ground.data }], guard := none }) rfl (fun K hK => ?_) AllReadyH.nil
      go_simp
      refine (HSl.out _ (hb1w.trans (hHeld.mono hb1w.size))).mono ?_; rintro e w2 ⟨rfl, hb2⟩; have hHeld := hHeld.trans (hb2.mono hHeld.size); clear hb2
      go_wp2_with fail
      refine hK.out _ _ ?_ (fun hHeld => ?_)
      · (try dsimp only); first | assumption | exact Below.alloc hHeld hHeld.size _ | exact (Below.refl _ _).drew | exact Below.drew (Below.refl _ _) | exact Below_drewN _ _ _ | exact Below.refl _ _ | (trace_state; fail)
      clear hK K
      try simp only [Act.put, List.setIfInBounds_toArray, List.set_cons_zero, List.set_cons_succ]
      refine wpAnyH_ready (rs := [10]) (by kernel_rfl) (by simp) ?_
      refine AllReadyH.cons (o := { dst := some 55, op := Op.call { callee := Callee.value (Operand.func 119), args := #[Operand.tmp 46, Operand.tmp 54], argTypes := #[3, 3] }, type := 142, pos := _, after := #[{ on := 1, ground := Ground.data }, { on := 9, ground := Ground.data }, { on := 9, ground := Ground.chain }], guard := none }) rfl (fun K hK => ?_) AllReadyH.nil
      go_simp
      refine (HVv.out sv HyI.out _).mono ?_; rintro e w3 ⟨r1, r2, rfl, hr1, hr2, hb3⟩; have Hr1 := Lib.hid hr1; have Hr2 := Lib.hid hr2; have hHeld := hHeld.trans (hb3.mono hHeld.size); clear hb3 hr1 hr2
      go_wp2_with fail
      refine hK.out _ _ ?_ (fun hHeld => ?_)
      · (try dsimp only); first | assumption | exact Below.alloc hHeld hHeld.size _ | exact (Below.refl _ _).drew | exact Below.drew (Below.refl _ _) | exact Below_drewN _ _ _ | exact Below.refl _ _ | (trace_state; fail)
      clear hK K
      try simp only [Act.put, List.setIfInBounds_toArray, List.set_cons_zero, List.set_cons_succ]
      refine wpAnyH_take (i := 11) (oi := { dst := some 56, op := Op.extract (Operand.tmp 55) 0, type := 35, pos := _, after := #[{ on := 10, ground := Ground.data }], guard := none }) (v := ?_) rfl (by kernel_rfl) (by kernel_rfl) (by kernel_rfl) (fun _ _ _ h => h) (Or.inl ⟨by rfl, ?_⟩) (by assumption) ?_
      rotate_left
      · intro wt hSw; (try dsimp only at hSw); have e03 := cellB hSw e03 y1; have e20 := cellB hSw e20 y2; have e21 := cellB hSw e21 y2; have C0 := cellB hSw C0 yb; have C1 := cellB hSw C1 yb; have C2 := cellB hSw C2 yb; have C3 := cellB hSw C3 yb; have C4 := cellB hSw C4 yb; first | (go_simp; done) | (go_simp; with_reducible rfl) | (trace_state; fail)
      try simp only [Act.put, List.setIfInBounds_toArray, List.set_cons_zero, List.set_cons_succ]
      refine wpAnyH_take (i := 12) (oi := { dst := some 57, op := Op.extract (Operand.tmp 55) 1, type := 35, pos := _, after := #[{ on := 10, ground := Ground.data }], guard := none }) (v := ?_) rfl (by kernel_rfl) (by kernel_rfl) (by kernel_rfl) (fun _ _ _ h => h) (Or.inl ⟨by rfl, ?_⟩) (by assumption) ?_
      rotate_left
      · intro wt hSw; (try dsimp only at hSw); have e03 := cellB hSw e03 y1; have e20 := cellB hSw e20 y2; have e21 := cellB hSw e21 y2; have C0 := cellB hSw C0 yb; have C1 := cellB hSw C1 yb; have C2 := cellB hSw C2 yb; have C3 := cellB hSw C3 yb; have C4 := cellB hSw C4 yb; first | (go_simp; done) | (go_simp; with_reducible rfl) | (trace_state; fail)
      try simp only [Act.put, List.setIfInBounds_toArray, List.set_cons_zero, List.set_cons_succ]
      refine wpAnyH_take (i := 13) (oi := { dst := some 6, op := Op.assign (Operand.tmp 56), type := 35, pos := _, after := #[{ on := 11, ground := Ground.data }, { on := 10, ground := Ground.chain }, { on := 0, ground := Ground.phase }, { on := 1, ground := Ground.phase }, { on := 2, ground := Ground.phase }, { on := 3, ground := Ground.phase }, { on := 4, ground := Ground.phase }, { on := 5, ground := Ground.phase }, { on := 6, ground := Ground.phase }, { on := 7, ground := Ground.phase }, { on := 8, ground := Ground.phase }, { on := 9, ground := Ground.phase }, { on := 10, ground := Ground.phase }, { on := 11, ground := Ground.phase }, { on := 12, ground := Ground.phase }], guard := none }) (v := ?_) rfl (by kernel_rfl) (by kernel_rfl) (by kernel_rfl) (fun _ _ _ h => h) (Or.inl ⟨by rfl, ?_⟩) (by assumption) ?_
      rotate_left
      · intro wt hSw; (try dsimp only at hSw); have e03 := cellB hSw e03 y1; have e20 := cellB hSw e20 y2; have e21 := cellB hSw e21 y2; have C0 := cellB hSw C0 yb; have C1 := cellB hSw C1 yb; have C2 := cellB hSw C2 yb; have C3 := cellB hSw C3 yb; have C4 := cellB hSw C4 yb; first | (go_simp; done) | (go_simp; with_reducible rfl) | (trace_state; fail)
      try simp only [Act.put, List.setIfInBounds_toArray, List.set_cons_zero, List.set_cons_succ]
      refine wpAnyH_take (i := 14) (oi := { dst := some 7, op := Op.assign (Operand.tmp 57), type := 35, pos := _, after := #[{ on := 12, ground := Ground.data }, { on := 13, ground := Ground.chain }, { on := 0, ground := Ground.phase }, { on := 1, ground := Ground.phase }, { on := 2, ground := Ground.phase }, { on := 3, ground := Ground.phase }, { on := 4, ground := Ground.phase }, { on := 5, ground := Ground.phase }, { on := 6, ground := Ground.phase }, { on := 7, ground := Ground.phase }, { on := 8, ground := Ground.phase }, { on := 9, ground := Ground.phase }, { on := 10, ground := Ground.phase }, { on := 11, ground := Ground.phase }, { on := 12, ground := Ground.phase }, { on := 13, ground := Ground.phase }], guard := none }) (v := ?_) rfl (by kernel_rfl) (by kernel_rfl) (by kernel_rfl) (fun _ _ _ h => h) (Or.inl ⟨by rfl, ?_⟩) (by assumption) ?_
      rotate_left
      · intro wt hSw; (try dsimp only at hSw); have e03 := cellB hSw e03 y1; have e20 := cellB hSw e20 y2; have e21 := cellB hSw e21 y2; have C0 := cellB hSw C0 yb; have C1 := cellB hSw C1 yb; have C2 := cellB hSw C2 yb; have C3 := cellB hSw C3 yb; have C4 := cellB hSw C4 yb; first | (go_simp; done) | (go_simp; with_reducible rfl) | (trace_state; fail)
      try simp only [Act.put, List.setIfInBounds_toArray, List.set_cons_zero, List.set_cons_succ]
      refine wpAnyH_done (by kernel_rfl) ?_ _
      have hB2 := hb1w.trans (hHeld.mono hb1w.size)
      go_wp2_with fail
      go_returns
      exact ⟨_, _, rfl, Hr1.out, Hr2.out, hB2⟩
  by_cases dt : 8 ≤ o ∧ o ≤ 26
  · have h4 : oA o = 4 := by
      by_cases h26 : o = 26
      · subst h26; rfl
      · obtain ⟨k, rfl⟩ := Int.eq_ofNat_of_zero_le (show 0 ≤ o by omega)
        exact (o_mid (k := k) (by omega)).1
    have hvt : takesL p x o ka b = tkT o ka ∧ leavesL p x o ka b = lvT o ka b := by
      unfold takesL leavesL
      exact ⟨by rw [if_neg (by omega), if_neg (by omega), if_pos dt], by rw [if_neg (by omega), if_neg (by omega), if_neg (by omega), if_pos dt]⟩
    rw [hvt.1, hvt.2]
    have HTt := Lib.hid (HTy.out dt)
    rw [h4] at HSh
    generalize tkT o ka = l1 at *
    generalize lvT o ka b = l2 at *
    generalize oB o = ob at *
    clear hcs hv hbk hun f4 hxf hvt h4 dt d1 dv ds ho
    generalize p.consts.length = n0 at *
    generalize p.vars.length = n1 at *
    generalize p.blocks.length = n2 at *
    generalize p.units.length = n3 at *
    go_enter Tryz.func104, Tryz.ntmps104
    go_wp2_with fail
    refine (HSh.out _ (by (repeat' (first | (with_reducible exact Below.refl _ _) | (with_reducible assumption) | (with_reducible refine below_drewN ?_ _) | (with_reducible refine Below.alloc ?_ ?_ _) | (with_reducible refine Below.drew ?_) | (with_reducible refine Below.setCell ?_ ?_ _) | go_size)))).mono ?_; rintro e w1 ⟨rfl, hb1⟩
    rw [← HW0.out] at hb1
    have hb1w := k4.trans (hb1.mono k4.size)
    have y1 := Nat.lt_of_lt_of_le z1 hb1.size
    have y2 := Nat.lt_of_lt_of_le k3 hb1.size
    have e00 := (K1.out.keep z1 hb1) 0 _ rfl
    have e01 := (K1.out.keep z1 hb1) 1 _ rfl
    have e02 := (K1.out.keep z1 hb1) 2 _ rfl
    have e03 := (K1.out.keep z1 hb1) 3 _ rfl
    have e20 := (K2.out.keep k3 hb1) 0 _ rfl
    have e21 := (K2.out.keep k3 hb1) 1 _ rfl
    have e22 := (K2.out.keep k3 hb1) 2 _ rfl
    go_wp2_with fail
    refine (HTt.out _ hb1w).mono ?_; rintro e w2 ⟨r1, r2, rfl, hr1, hr2, hb2⟩
    have Hr1 := Lib.hid hr1
    have Hr2 := Lib.hid hr2
    have hB2 := hb1w.trans (hb2.mono hb1w.size)
    clear hr1 hr2
    go_wp2_with fail
    go_returns
    exact ⟨_, _, rfl, Hr1.out, Hr2.out, hB2⟩
  by_cases db : o = 35 ∨ o = 36 ∨ o = 37
  · have h8 : oA o = 8 := by rcases db with rfl | rfl | rfl <;> decide
    have g1 : (ka : Int) < p.blocks.length := by have := HTh.out; rw [thereP_8 h8] at this; exact (of_decide_eq_true this).1
    have hvt : takesL p x o ka b = tkB o (fldT (kindAt p ka) b) ∧ leavesL p x o ka b = lvB o (fldT (kindAt p ka) b) := by rcases db with rfl | rfl | rfl <;> exact ⟨rfl, rfl⟩
    rw [hvt.1, hvt.2]
    have HTt := Lib.hid (HBl.out g1 db)
    rw [h8] at HSh
    generalize tkB o (fldT (kindAt p ka) b) = l1 at *
    generalize lvB o (fldT (kindAt p ka) b) = l2 at *
    generalize oB o = ob at *
    clear hcs hv hbk hun f4 hxf hvt h8 g1 db dt d1 dv ds ho
    generalize p.consts.length = n0 at *
    generalize p.vars.length = n1 at *
    generalize p.blocks.length = n2 at *
    generalize p.units.length = n3 at *
    go_enter Tryz.func104, Tryz.ntmps104
    go_wp2_with fail
    refine (HSh.out _ (by (repeat' (first | (with_reducible exact Below.refl _ _) | (with_reducible assumption) | (with_reducible refine below_drewN ?_ _) | (with_reducible refine Below.alloc ?_ ?_ _) | (with_reducible refine Below.drew ?_) | (with_reducible refine Below.setCell ?_ ?_ _) | go_size)))).mono ?_; rintro e w1 ⟨rfl, hb1⟩
    rw [← HW0.out] at hb1
    have hb1w := k4.trans (hb1.mono k4.size)
    have y1 := Nat.lt_of_lt_of_le z1 hb1.size
    have y2 := Nat.lt_of_lt_of_le k3 hb1.size
    have e00 := (K1.out.keep z1 hb1) 0 _ rfl
    have e01 := (K1.out.keep z1 hb1) 1 _ rfl
    have e02 := (K1.out.keep z1 hb1) 2 _ rfl
    have e03 := (K1.out.keep z1 hb1) 3 _ rfl
    have e20 := (K2.out.keep k3 hb1) 0 _ rfl
    have e21 := (K2.out.keep k3 hb1) 1 _ rfl
    have e22 := (K2.out.keep k3 hb1) 2 _ rfl
    go_wp2_with fail
    refine (HTt.out _ hb1w).mono ?_; rintro e w2 ⟨r1, r2, rfl, hr1, hr2, hb2⟩
    have Hr1 := Lib.hid hr1
    have Hr2 := Lib.hid hr2
    have hB2 := hb1w.trans (hb2.mono hb1w.size)
    clear hr1 hr2
    go_wp2_with fail
    go_returns
    exact ⟨_, _, rfl, Hr1.out, Hr2.out, hB2⟩
  by_cases dn : o = 0 ∨ o = 30 ∨ o = 34
  · rcases dn with rfl | rfl | rfl
    all_goals
      first | rw [show takesL p x 0 ka b = [] from rfl, show leavesL p x 0 ka b = [] from rfl] | rw [show takesL p x 30 ka b = [] from rfl, show leavesL p x 30 ka b = [] from rfl] | rw [show takesL p x 34 ka b = [] from rfl, show leavesL p x 34 ka b = [] from rfl]
      clear hcs hv hbk hun f4 hxf
      generalize p.consts.length = n0 at *
      generalize p.vars.length = n1 at *
      generalize p.blocks.length = n2 at *
      generalize p.units.length = n3 at *
      go_enter Tryz.func104, Tryz.ntmps104
      go_wp2_with fail
      refine (HSh.out _ (by (repeat' (first | (with_reducible exact Below.refl _ _) | (with_reducible assumption) | (with_reducible refine below_drewN ?_ _) | (with_reducible refine Below.alloc ?_ ?_ _) | (with_reducible refine Below.drew ?_) | (with_reducible refine Below.setCell ?_ ?_ _) | go_size)))).mono ?_; rintro e w1 ⟨rfl, hb1⟩
      rw [← HW0.out] at hb1
      first | rw [show oA 0 = 10 from rfl] | rw [show oA 30 = 5 from rfl] | rw [show oA 34 = 0 from rfl]
      have hb1w := k4.trans (hb1.mono k4.size)
      have y1 := Nat.lt_of_lt_of_le z1 hb1.size
      have y2 := Nat.lt_of_lt_of_le k3 hb1.size
      have e00 := (K1.out.keep z1 hb1) 0 _ rfl
      have e01 := (K1.out.keep z1 hb1) 1 _ rfl
      have e02 := (K1.out.keep z1 hb1) 2 _ rfl
      have e03 := (K1.out.keep z1 hb1) 3 _ rfl
      have e20 := (K2.out.keep k3 hb1) 0 _ rfl
      have e21 := (K2.out.keep k3 hb1) 1 _ rfl
      have e22 := (K2.out.keep k3 hb1) 2 _ rfl
      go_wp2_with fail
      go_returns
      exact ⟨_, _, rfl, row_none, row_none, hb1w⟩
  by_cases d28 : o = 28
  · subst d28
    rw [show takesL p x 28 ka b = [0] from rfl, show leavesL p x 28 ka b = [] from rfl]
    clear hcs hv hbk hun f4 hxf
    generalize p.consts.length = n0 at *
    generalize p.vars.length = n1 at *
    generalize p.blocks.length = n2 at *
    generalize p.units.length = n3 at *
    go_enter Tryz.func104, Tryz.ntmps104
    go_wp2_with fail
    refine (HSh.out _ (by (repeat' (first | (with_reducible exact Below.refl _ _) | (with_reducible assumption) | (with_reducible refine below_drewN ?_ _) | (with_reducible refine Below.alloc ?_ ?_ _) | (with_reducible refine Below.drew ?_) | (with_reducible refine Below.setCell ?_ ?_ _) | go_size)))).mono ?_; rintro e w1 ⟨rfl, hb1⟩
    rw [← HW0.out] at hb1
    rw [show oA 28 = 0 from rfl]
    have hb1w := k4.trans (hb1.mono k4.size)
    have y1 := Nat.lt_of_lt_of_le z1 hb1.size
    have y2 := Nat.lt_of_lt_of_le k3 hb1.size
    have e00 := (K1.out.keep z1 hb1) 0 _ rfl
    have e01 := (K1.out.keep z1 hb1) 1 _ rfl
    have e02 := (K1.out.keep z1 hb1) 2 _ rfl
    have e03 := (K1.out.keep z1 hb1) 3 _ rfl
    have e20 := (K2.out.keep k3 hb1) 0 _ rfl
    have e21 := (K2.out.keep k3 hb1) 1 _ rfl
    have e22 := (K2.out.keep k3 hb1) 2 _ rfl
    go_wp2_with fail
    refine (HP1.out _ 0 I64_0).mono ?_; rintro e w2 ⟨r, rfl, hr, hb2⟩
    have hb2 : Below w1.heap.size w1 w2 := Below.trans (by (repeat' (first | (with_reducible exact Below.refl _ _) | (with_reducible assumption) | (with_reducible refine below_drewN ?_ _) | (with_reducible refine Below.alloc ?_ ?_ _) | (with_reducible refine Below.drew ?_) | (with_reducible refine Below.setCell ?_ ?_ _) | go_size))) (hb2.mono (by simp))
    have Hr := Lib.hid hr
    clear hr
    go_wp2_with fail
    go_returns
    exact ⟨_, _, rfl, Hr.out, row_none, hb1w.trans (hb2.mono hb1w.size)⟩
  by_cases d31 : o = 31
  · subst d31
    rw [show takesL p x 31 ka b = [1] from rfl, show leavesL p x 31 ka b = [] from rfl]
    clear hcs hv hbk hun f4 hxf
    generalize p.consts.length = n0 at *
    generalize p.vars.length = n1 at *
    generalize p.blocks.length = n2 at *
    generalize p.units.length = n3 at *
    go_enter Tryz.func104, Tryz.ntmps104
    go_wp2_with fail
    refine (HSh.out _ (by (repeat' (first | (with_reducible exact Below.refl _ _) | (with_reducible assumption) | (with_reducible refine below_drewN ?_ _) | (with_reducible refine Below.alloc ?_ ?_ _) | (with_reducible refine Below.drew ?_) | (with_reducible refine Below.setCell ?_ ?_ _) | go_size)))).mono ?_; rintro e w1 ⟨rfl, hb1⟩
    rw [← HW0.out] at hb1
    rw [show oA 31 = 5 from rfl]
    have hb1w := k4.trans (hb1.mono k4.size)
    have y1 := Nat.lt_of_lt_of_le z1 hb1.size
    have y2 := Nat.lt_of_lt_of_le k3 hb1.size
    have e00 := (K1.out.keep z1 hb1) 0 _ rfl
    have e01 := (K1.out.keep z1 hb1) 1 _ rfl
    have e02 := (K1.out.keep z1 hb1) 2 _ rfl
    have e03 := (K1.out.keep z1 hb1) 3 _ rfl
    have e20 := (K2.out.keep k3 hb1) 0 _ rfl
    have e21 := (K2.out.keep k3 hb1) 1 _ rfl
    have e22 := (K2.out.keep k3 hb1) 2 _ rfl
    go_wp2_with fail
    refine (HP1.out _ 1 I64_1).mono ?_; rintro e w2 ⟨r, rfl, hr, hb2⟩
    have hb2 : Below w1.heap.size w1 w2 := Below.trans (by (repeat' (first | (with_reducible exact Below.refl _ _) | (with_reducible assumption) | (with_reducible refine below_drewN ?_ _) | (with_reducible refine Below.alloc ?_ ?_ _) | (with_reducible refine Below.drew ?_) | (with_reducible refine Below.setCell ?_ ?_ _) | go_size))) (hb2.mono (by simp))
    have Hr := Lib.hid hr
    clear hr
    go_wp2_with fail
    go_returns
    exact ⟨_, _, rfl, Hr.out, row_none, hb1w.trans (hb2.mono hb1w.size)⟩
  by_cases d32 : o = 32
  · subst d32
    rw [show takesL p x 32 ka b = [2] from rfl, show leavesL p x 32 ka b = [] from rfl]
    clear hcs hv hbk hun f4 hxf
    generalize p.consts.length = n0 at *
    generalize p.vars.length = n1 at *
    generalize p.blocks.length = n2 at *
    generalize p.units.length = n3 at *
    go_enter Tryz.func104, Tryz.ntmps104
    go_wp2_with fail
    refine (HSh.out _ (by (repeat' (first | (with_reducible exact Below.refl _ _) | (with_reducible assumption) | (with_reducible refine below_drewN ?_ _) | (with_reducible refine Below.alloc ?_ ?_ _) | (with_reducible refine Below.drew ?_) | (with_reducible refine Below.setCell ?_ ?_ _) | go_size)))).mono ?_; rintro e w1 ⟨rfl, hb1⟩
    rw [← HW0.out] at hb1
    rw [show oA 32 = 6 from rfl]
    have hb1w := k4.trans (hb1.mono k4.size)
    have y1 := Nat.lt_of_lt_of_le z1 hb1.size
    have y2 := Nat.lt_of_lt_of_le k3 hb1.size
    have e00 := (K1.out.keep z1 hb1) 0 _ rfl
    have e01 := (K1.out.keep z1 hb1) 1 _ rfl
    have e02 := (K1.out.keep z1 hb1) 2 _ rfl
    have e03 := (K1.out.keep z1 hb1) 3 _ rfl
    have e20 := (K2.out.keep k3 hb1) 0 _ rfl
    have e21 := (K2.out.keep k3 hb1) 1 _ rfl
    have e22 := (K2.out.keep k3 hb1) 2 _ rfl
    go_wp2_with fail
    refine (HP1.out _ 2 I64_2).mono ?_; rintro e w2 ⟨r, rfl, hr, hb2⟩
    have hb2 : Below w1.heap.size w1 w2 := Below.trans (by (repeat' (first | (with_reducible exact Below.refl _ _) | (with_reducible assumption) | (with_reducible refine below_drewN ?_ _) | (with_reducible refine Below.alloc ?_ ?_ _) | (with_reducible refine Below.drew ?_) | (with_reducible refine Below.setCell ?_ ?_ _) | go_size))) (hb2.mono (by simp))
    have Hr := Lib.hid hr
    clear hr
    go_wp2_with fail
    go_returns
    exact ⟨_, _, rfl, Hr.out, row_none, hb1w.trans (hb2.mono hb1w.size)⟩
  by_cases d27 : o = 27
  · subst d27
    rw [show takesL p x 27 ka b = [0] from rfl, show leavesL p x 27 ka b = [0, 0] from rfl]
    clear hcs hv hbk hun f4 hxf
    generalize p.consts.length = n0 at *
    generalize p.vars.length = n1 at *
    generalize p.blocks.length = n2 at *
    generalize p.units.length = n3 at *
    go_enter Tryz.func104, Tryz.ntmps104
    go_wp2_with fail
    refine (HSh.out _ (by (repeat' (first | (with_reducible exact Below.refl _ _) | (with_reducible assumption) | (with_reducible refine below_drewN ?_ _) | (with_reducible refine Below.alloc ?_ ?_ _) | (with_reducible refine Below.drew ?_) | (with_reducible refine Below.setCell ?_ ?_ _) | go_size)))).mono ?_; rintro e w1 ⟨rfl, hb1⟩
    rw [← HW0.out] at hb1
    rw [show oA 27 = 0 from rfl]
    have hb1w := k4.trans (hb1.mono k4.size)
    have y1 := Nat.lt_of_lt_of_le z1 hb1.size
    have y2 := Nat.lt_of_lt_of_le k3 hb1.size
    have e00 := (K1.out.keep z1 hb1) 0 _ rfl
    have e01 := (K1.out.keep z1 hb1) 1 _ rfl
    have e02 := (K1.out.keep z1 hb1) 2 _ rfl
    have e03 := (K1.out.keep z1 hb1) 3 _ rfl
    have e20 := (K2.out.keep k3 hb1) 0 _ rfl
    have e21 := (K2.out.keep k3 hb1) 1 _ rfl
    have e22 := (K2.out.keep k3 hb1) 2 _ rfl
    go_wp2_with fail
    refine (HP1.out _ 0 I64_0).mono ?_; rintro e w2 ⟨r, rfl, hr, hb2⟩
    have hb2 : Below w1.heap.size w1 w2 := Below.trans (by (repeat' (first | (with_reducible exact Below.refl _ _) | (with_reducible assumption) | (with_reducible refine below_drewN ?_ _) | (with_reducible refine Below.alloc ?_ ?_ _) | (with_reducible refine Below.drew ?_) | (with_reducible refine Below.setCell ?_ ?_ _) | go_size))) (hb2.mono (by simp))
    have Hr := Lib.hid hr
    clear hr
    go_wp2_with fail
    refine (HP2.out _ 0 0 I64_0 I64_0).mono ?_; rintro e w3 ⟨r2, rfl, hr2, hb3⟩
    have hb3 : Below w2.heap.size w2 w3 := Below.trans (by (repeat' (first | (with_reducible exact Below.refl _ _) | (with_reducible assumption) | (with_reducible refine below_drewN ?_ _) | (with_reducible refine Below.alloc ?_ ?_ _) | (with_reducible refine Below.drew ?_) | (with_reducible refine Below.setCell ?_ ?_ _) | go_size))) (hb3.mono (by simp))
    have Hr2 := Lib.hid hr2
    clear hr2
    go_wp2_with fail
    go_returns
    exact ⟨_, _, rfl, Hr.out.below intR_stable hb3, Hr2.out, hb1w.trans ((hb2.trans (hb3.mono hb2.size)).mono hb1w.size)⟩
  by_cases d29 : o = 29
  · subst d29
    rw [show takesL p x 29 ka b = [0, 0] from rfl, show leavesL p x 29 ka b = [0, 0] from rfl]
    clear hcs hv hbk hun f4 hxf
    generalize p.consts.length = n0 at *
    generalize p.vars.length = n1 at *
    generalize p.blocks.length = n2 at *
    generalize p.units.length = n3 at *
    go_enter Tryz.func104, Tryz.ntmps104
    go_wp2_with fail
    refine (HSh.out _ (by (repeat' (first | (with_reducible exact Below.refl _ _) | (with_reducible assumption) | (with_reducible refine below_drewN ?_ _) | (with_reducible refine Below.alloc ?_ ?_ _) | (with_reducible refine Below.drew ?_) | (with_reducible refine Below.setCell ?_ ?_ _) | go_size)))).mono ?_; rintro e w1 ⟨rfl, hb1⟩
    rw [← HW0.out] at hb1
    rw [show oA 29 = 0 from rfl]
    have hb1w := k4.trans (hb1.mono k4.size)
    have y1 := Nat.lt_of_lt_of_le z1 hb1.size
    have y2 := Nat.lt_of_lt_of_le k3 hb1.size
    have e00 := (K1.out.keep z1 hb1) 0 _ rfl
    have e01 := (K1.out.keep z1 hb1) 1 _ rfl
    have e02 := (K1.out.keep z1 hb1) 2 _ rfl
    have e03 := (K1.out.keep z1 hb1) 3 _ rfl
    have e20 := (K2.out.keep k3 hb1) 0 _ rfl
    have e21 := (K2.out.keep k3 hb1) 1 _ rfl
    have e22 := (K2.out.keep k3 hb1) 2 _ rfl
    go_wp2_with fail
    refine (HP2.out _ 0 0 I64_0 I64_0).mono ?_; rintro e w2 ⟨r, rfl, hr, hb2⟩
    have hb2 : Below w1.heap.size w1 w2 := Below.trans (by (repeat' (first | (with_reducible exact Below.refl _ _) | (with_reducible assumption) | (with_reducible refine below_drewN ?_ _) | (with_reducible refine Below.alloc ?_ ?_ _) | (with_reducible refine Below.drew ?_) | (with_reducible refine Below.setCell ?_ ?_ _) | go_size))) (hb2.mono (by simp))
    have Hr := Lib.hid hr
    clear hr
    go_wp2_with fail
    refine (HP2.out _ 0 0 I64_0 I64_0).mono ?_; rintro e w3 ⟨r2, rfl, hr2, hb3⟩
    have hb3 : Below w2.heap.size w2 w3 := Below.trans (by (repeat' (first | (with_reducible exact Below.refl _ _) | (with_reducible assumption) | (with_reducible refine below_drewN ?_ _) | (with_reducible refine Below.alloc ?_ ?_ _) | (with_reducible refine Below.drew ?_) | (with_reducible refine Below.setCell ?_ ?_ _) | go_size))) (hb3.mono (by simp))
    have Hr2 := Lib.hid hr2
    clear hr2
    go_wp2_with fail
    go_returns
    exact ⟨_, _, rfl, Hr.out.below intR_stable hb3, Hr2.out, hb1w.trans ((hb2.trans (hb3.mono hb2.size)).mono hb1w.size)⟩
  have d33 : o = 33 := by omega
  subst d33
  have g1 : ka < p.units.length := by have := HTh.out; rw [thereP_7 (show oA 33 = 7 by decide)] at this; have := (of_decide_eq_true this).2; omega
  obtain ⟨y, hy⟩ := get_some g1
  have huy : unAt p ka = y := by unfold unAt; simp [List.getD, hy]
  rw [show takesL p x 33 ka b = (unAt p ka).params from rfl, show leavesL p x 33 ka b = if (unAt p ka).result = 0 then [] else [(unAt p ka).result] from rfl, huy]
  have hyf := f4 y (List.mem_of_getElem? hy)
  obtain ⟨b3, off3, rfl, hbw3, hc3⟩ := unit_at hun (k := ka) g1
  obtain ⟨u1, u3, u4, c0, c1, c2, c3, c4, hU⟩ := hc3 ka y hy
  obtain ⟨su1, cu1, rfl⟩ := row_get hU.ps
  obtain ⟨su3, cu3, rfl⟩ := row_get hU.ls
  obtain ⟨su4, cu4, rfl⟩ := row_get hU.cs
  have HPp := Lib.hid (fun W (hb : Below w.heap.size w W) => stack_put _ (.slice none 0 0) y.params [] W (hU.ps.below intR_stable hb) row_none (by have := (fewU_is hyf).2.1; omega) (by simp))
  have HrI := Lib.hid hU.r64
  have r1 : ((ka : Int) < (p.units.length : Int)) = True := eq_true (by omega)
  simp only [List.append_nil] at HPp
  generalize (⟨y.name.toArray⟩ : ByteArray) = nm at *
  generalize y.params.length = np at *
  generalize y.locals.length = nl at *
  generalize y.code.length = nc at *
  generalize y.params = P at *
  generalize y.result = rs at *
  clear hc3 hcs hv hbk hun g1 f4 hxf huy hy hyf hU
  generalize p.consts.length = n0 at *
  generalize p.vars.length = n1 at *
  generalize p.blocks.length = n2 at *
  generalize p.units.length = n3 at *
  by_cases h0 : rs = 0
  · rw [if_pos h0]
    have q0 : (rs == 0) = true := by simpa using h0
    clear h0
    go_enter Tryz.func104, Tryz.ntmps104
    go_wp2_with fail
    refine (HSh.out _ (by (repeat' (first | (with_reducible exact Below.refl _ _) | (with_reducible assumption) | (with_reducible refine below_drewN ?_ _) | (with_reducible refine Below.alloc ?_ ?_ _) | (with_reducible refine Below.drew ?_) | (with_reducible refine Below.setCell ?_ ?_ _) | go_size)))).mono ?_; rintro e w1 ⟨rfl, hb1⟩
    rw [← HW0.out] at hb1
    rw [show oA 33 = 7 from rfl]
    have hb1w := k4.trans (hb1.mono k4.size)
    have y1 := Nat.lt_of_lt_of_le z1 hb1.size
    have y2 := Nat.lt_of_lt_of_le k3 hb1.size
    have e00 := (K1.out.keep z1 hb1) 0 _ rfl
    have e01 := (K1.out.keep z1 hb1) 1 _ rfl
    have e02 := (K1.out.keep z1 hb1) 2 _ rfl
    have e03 := (K1.out.keep z1 hb1) 3 _ rfl
    have e20 := (K2.out.keep k3 hb1) 0 _ rfl
    have e21 := (K2.out.keep k3 hb1) 1 _ rfl
    have e22 := (K2.out.keep k3 hb1) 2 _ rfl
    have C0 := (hb1w.cell (p := ⟨b3, off3 + ka * 5, none⟩) hbw3).trans c0
    have C1 := (hb1w.cell (p := ⟨b3, off3 + ka * 5 + 1, none⟩) hbw3).trans c1
    have C2 := (hb1w.cell (p := ⟨b3, off3 + ka * 5 + 2, none⟩) hbw3).trans c2
    have C3 := (hb1w.cell (p := ⟨b3, off3 + ka * 5 + 3, none⟩) hbw3).trans c3
    have C4 := (hb1w.cell (p := ⟨b3, off3 + ka * 5 + 4, none⟩) hbw3).trans c4
    have yb : b3 < w1.heap.size := Nat.lt_of_lt_of_le hbw3 hb1w.size
    go_wp2_with fail
    refine (HPp.out _ (hb1w.trans ((show Below w1.heap.size w1 _ by (repeat' (first | (with_reducible exact Below.refl _ _) | (with_reducible assumption) | (with_reducible refine below_drewN ?_ _) | (with_reducible refine Below.alloc ?_ ?_ _) | (with_reducible refine Below.drew ?_) | (with_reducible refine Below.setCell ?_ ?_ _) | go_size))).mono hb1w.size))).mono ?_; rintro e w2 ⟨r, rfl, hr, hb2⟩
    have hb2 : Below w1.heap.size w1 w2 := Below.trans (by (repeat' (first | (with_reducible exact Below.refl _ _) | (with_reducible assumption) | (with_reducible refine below_drewN ?_ _) | (with_reducible refine Below.alloc ?_ ?_ _) | (with_reducible refine Below.drew ?_) | (with_reducible refine Below.setCell ?_ ?_ _) | go_size))) (hb2.mono (by simp))
    have Hr := Lib.hid hr
    clear hr
    go_wp2_with fail
    go_returns
    exact ⟨_, _, rfl, Hr.out, row_none, hb1w.trans (hb2.mono hb1w.size)⟩
  · rw [if_neg h0]
    have q0 : (rs == 0) = false := by simpa using h0
    clear h0
    go_enter Tryz.func104, Tryz.ntmps104
    go_wp2_with fail
    refine (HSh.out _ (by (repeat' (first | (with_reducible exact Below.refl _ _) | (with_reducible assumption) | (with_reducible refine below_drewN ?_ _) | (with_reducible refine Below.alloc ?_ ?_ _) | (with_reducible refine Below.drew ?_) | (with_reducible refine Below.setCell ?_ ?_ _) | go_size)))).mono ?_; rintro e w1 ⟨rfl, hb1⟩
    rw [← HW0.out] at hb1
    rw [show oA 33 = 7 from rfl]
    have hb1w := k4.trans (hb1.mono k4.size)
    have y1 := Nat.lt_of_lt_of_le z1 hb1.size
    have y2 := Nat.lt_of_lt_of_le k3 hb1.size
    have e00 := (K1.out.keep z1 hb1) 0 _ rfl
    have e01 := (K1.out.keep z1 hb1) 1 _ rfl
    have e02 := (K1.out.keep z1 hb1) 2 _ rfl
    have e03 := (K1.out.keep z1 hb1) 3 _ rfl
    have e20 := (K2.out.keep k3 hb1) 0 _ rfl
    have e21 := (K2.out.keep k3 hb1) 1 _ rfl
    have e22 := (K2.out.keep k3 hb1) 2 _ rfl
    have C0 := (hb1w.cell (p := ⟨b3, off3 + ka * 5, none⟩) hbw3).trans c0
    have C1 := (hb1w.cell (p := ⟨b3, off3 + ka * 5 + 1, none⟩) hbw3).trans c1
    have C2 := (hb1w.cell (p := ⟨b3, off3 + ka * 5 + 2, none⟩) hbw3).trans c2
    have C3 := (hb1w.cell (p := ⟨b3, off3 + ka * 5 + 3, none⟩) hbw3).trans c3
    have C4 := (hb1w.cell (p := ⟨b3, off3 + ka * 5 + 4, none⟩) hbw3).trans c4
    have yb : b3 < w1.heap.size := Nat.lt_of_lt_of_le hbw3 hb1w.size
    have HP1b := Lib.hid (fun (W : World) (bl : Nat) (z : Int) (hz : I64 z) (hc : W.cell? ⟨bl, 0, none⟩ = some (.int .i64 z)) => stack_put (.slice none 0 0) (.slice (some ⟨bl, 0, none⟩) 1 1) [] [z] W row_none (row_cells1 hc hz) (by simp) (by simp))
    go_wp2_with fail
    go_region_with (first | (go_at_call 105; have hMark := Hr.out; clear hMark; refine (HP1b.out _ _ rs HrI.out ?_).mono ?_; (focus (first | (go_cell; done) | (simp [go_sem]; done))); rintro e w3 ⟨r2, rfl, hr2, hb3⟩; have Hr2 := Lib.hid hr2; have HB2 : Below w2.heap.size w2 w3 := Below.trans (by (repeat' (first | (with_reducible exact Below.refl _ _) | (with_reducible assumption) | (with_reducible refine below_drewN ?_ _) | (with_reducible refine Below.alloc ?_ ?_ _) | (with_reducible refine Below.drew ?_) | (with_reducible refine Below.setCell ?_ ?_ _) | go_size))) (hb3.mono (by first | omega | (simp <;> omega))); obtain ⟨ra2, rc2, rfl⟩ := row_get hr2; clear hr2 hb3) | (go_at_call 105; refine (HPp.out _ (hb1w.trans (Below.mono (show Below w1.heap.size w1 _ by (repeat' (first | (with_reducible exact Below.refl _ _) | (with_reducible assumption) | (with_reducible refine below_drewN ?_ _) | (with_reducible refine Below.alloc ?_ ?_ _) | (with_reducible refine Below.drew ?_) | (with_reducible refine Below.setCell ?_ ?_ _) | go_size))) hb1w.size))).mono ?_; rintro e w2 ⟨r, rfl, hr, hb⟩; have hB : Below w1.heap.size w1 w2 := Below.trans (by (repeat' (first | (with_reducible exact Below.refl _ _) | (with_reducible assumption) | (with_reducible refine below_drewN ?_ _) | (with_reducible refine Below.alloc ?_ ?_ _) | (with_reducible refine Below.drew ?_) | (with_reducible refine Below.setCell ?_ ?_ _) | go_size))) (hb.mono (by first | omega | (simp <;> omega))); obtain ⟨hc, hf⟩ := bcell hb; have hlt := blt hb; have hz := hb.size; (try simp only [World.size_alloc, World.size_drew, World.size_setCell, World.heap_drewN] at hz hc hf hlt); have Hr := Lib.hid hr; obtain ⟨ra, rc, rfl⟩ := row_get hr; clear hr hb))
    all_goals
      go_wp2_with fail
      go_returns
      exact ⟨_, _, rfl, Hr.out.below intR_stable HB2, Hr2.out, hb1w.trans ((hB.trans (HB2.mono hB.size)).mono hb1w.size)⟩
end Go.Proofs.YtefejcofmopjfaaGreatDoor
