/- Layer 18: operands that are there. -/
import Derived.Test.YtefejcofmopjfaaGreatDoorRefs
import Derived.Test.YtefejcofmopjfaaGreatDoorBoxed
import Derived.WalkMore
import Derived.Deep.RegionHeld3
namespace Go.Proofs.YtefejcofmopjfaaGreatDoor
open Go.RowKit
set_option linter.unusedSimpArgs false
set_option linter.unusedVariables false
def wideP (p : Pr) : Bool := decide ((p.consts.length ≤ 100 ∧ p.vars.length ≤ 100 ∧ p.blocks.length ≤ 100 ∧ p.units.length ≤ 100) ∧ True ∧ True ∧ ∀ x ∈ p.units, fewU x = true)
theorem wideP_is {p : Pr} (h : wideP p = true) : (p.consts.length ≤ 100 ∧ p.vars.length ≤ 100 ∧ p.blocks.length ≤ 100 ∧ p.units.length ≤ 100) ∧ True ∧ True ∧ ∀ x ∈ p.units, fewU x = true := of_decide_eq_true h
theorem few_wide {p : Pr} (h : fewP p = true) : wideP p = true := by
  obtain ⟨⟨a, b, c, d⟩, _, _, e⟩ := fewP_is h
  exact decide_eq_true ⟨⟨by omega, by omega, by omega, by omega⟩, trivial, trivial, e⟩
def unAt (p : Pr) (u : Int) : Un := p.units.getD u.toNat ⟨[], [], 0, [], []⟩
def oneP (p : Pr) (u o a b : Int) : Int := if ¬ (0 ≤ u ∧ u < p.units.length) then 15 else if oRight o a b = false then 7 else if typedP o a b = false then 10 else if thereP p (unAt p u) o a b = false then 8 else 0
theorem oRight_pos {o a b : Int} (h : oRight o a b = true) : (0 ≤ o ∧ o ≤ 37) ∧ 0 ≤ a ∧ 0 ≤ b ∧ oFit (oA o) a = true ∧ oFit (oB o) b = true := by
  have h' : (oIs o && oFit (oA o) a && oFit (oB o) b) = true := h
  simp only [Bool.and_eq_true] at h'
  obtain ⟨⟨h1, h2⟩, h3⟩ := h'
  have k : ∀ c n : Int, oFit c n = true → 0 ≤ n := by
    intro c n hc
    unfold oFit at hc
    split at hc
    · have : n = 0 := by simpa using hc
      omega
    · exact (of_decide_eq_true hc).1
  exact ⟨of_decide_eq_true h1, k _ _ h2, k _ _ h3, h2, h3⟩
set_option maxHeartbeats 4000000 in
theorem refs_thereW (pc pv pb pu : Value) (p : Pr) (u o a b : Int) (w : World) (h : PrAt w pc pv pb pu p) (hT : TabR w) (hf : wideP p = true) (hu : 0 ≤ u ∧ u < p.units.length) (ha : 0 ≤ a) :
    Calls Tryz.prog 100 #[.agg #[pc, pv, pb, pu], .int .i64 u, .agg #[.int .i64 o, .int .i64 a, .int .i64 b]] w fun e w' => e = .returned (.bool (thereP p (unAt p u) o a b)) ∧ Below w.heap.size w w' := by
  have cp := @cell_past
  obtain ⟨⟨f0, f1, f2, f3⟩, _, _, f4⟩ := wideP_is hf
  obtain ⟨i, rfl⟩ := Int.eq_ofNat_of_zero_le hu.1
  obtain ⟨x, hx⟩ := get_some (L := p.units) (n := i) (by omega)
  have hux : unAt p i = x := by unfold unAt; simp [List.getD, hx]
  rw [hux]
  have hxf := f4 x (List.mem_of_getElem? hx)
  have hv := h.vs
  have hbk := h.bs
  have hun := h.us
  have HV := Lib.hid (fun W (hb : Below w.heap.size w W) => refs_variable pc pv pb pu p o a b W (h.below hb) ha)
  obtain ⟨s0, t0, rfl⟩ := row_get h.cs
  obtain ⟨s1, t1, rfl⟩ := row_get h.vs
  obtain ⟨s2, t2, rfl⟩ := row_get h.bs
  obtain ⟨s3, t3, rfl⟩ := row_get h.us
  have HD := Lib.hid (show thereP p x o a b = if oA o = 1 then decide (a < p.consts.length) else if oA o = 2 then varP p o a else if oA o = 3 then decide (a < slotsN x) else if oA o = 7 then decide (0 < a ∧ a < p.units.length) else if oA o = 8 then decide (a < p.blocks.length ∧ (oB o = 9 → b < reachN o (kindAt p a))) else true from rfl)
  obtain ⟨b3, off3, rfl, hbw3, hc3⟩ := unit_at hun (k := i) (by omega)
  obtain ⟨u1, u3, u4, c0, c1, c2, c3, c4, hU⟩ := hc3 i x hx
  have HS := Lib.hid (fun W (hb : Below w.heap.size w W) => refs_slots u1 u3 u4 x W (hU.below hb) hxf)
  have hS : ∀ W, Below w.heap.size w W → Calls Tryz.prog 110 #[.int .i64 o] W fun e w' => e = .returned (.tuple #[.int .i64 (oA o), .int .i64 (oB o)]) ∧ Below W.heap.size W w' := fun W hb => (op_ShapeS o W (hT.st.below hb)).mono (fun e w' ⟨h1, m, h2⟩ => ⟨h1, h2 ▸ Below_drewN _ _ _⟩)
  have q0 : ((i : Int) < 0) = False := eq_false (by omega)
  have hl3 : i < p.units.length := by omega
  have hBS := Lib.hid (fun W (hb : Below w.heap.size w W) k => refs_reach o k W (hT.bs.below hb))
  clear hc3 h hun hT
  obtain ⟨W0, hW0⟩ : ∃ W0, W0 = (w.alloc (.cells #[.slice s0 p.consts.length t0, .slice s1 p.vars.length t1, .slice s2 p.blocks.length t2, .slice (some ⟨b3, off3, none⟩) p.units.length t3] 27)).alloc (.cells #[.int .i64 o, .int .i64 a, .int .i64 b] 40) := ⟨_, rfl⟩
  obtain ⟨k1, k2, k3, k4⟩ := boxed2 w [.slice s0 p.consts.length t0, .slice s1 p.vars.length t1, .slice s2 p.blocks.length t2, .slice (some ⟨b3, off3, none⟩) p.units.length t3] [.int .i64 o, .int .i64 a, .int .i64 b] 27 40 (W' := W0) (by rw [hW0]; exact Below.refl _ _)
  have HW0 := Lib.hid hW0
  clear hW0
  have K1 := Lib.hid k1
  have K2 := Lib.hid k2
  clear k1 k2
  generalize hoa : oA o = oa at *
  generalize hob : oB o = ob at *
  by_cases d1 : oa = 1
  · subst d1
    rw [if_pos rfl] at HD
    generalize p.consts.length = n0 at *
    generalize p.vars.length = n1 at *
    generalize p.blocks.length = n2 at *
    generalize p.units.length = n3 at *
    by_cases g : a < (n0 : Int)
    all_goals
      have hs := Lib.hid (HD.out.trans (by first | exact decide_eq_true g | exact decide_eq_false g))
      first | have qg2 := eq_false g | have qg2 := eq_true g
      clear g hx hxf f4
      go_enter Tryz.func100, Tryz.ntmps100
      go_wp2_with fail
      go_step3
      go_wp2_with fail
      refine (hS _ (by (repeat' (first | (with_reducible exact Below.refl _ _) | (with_reducible assumption) | (with_reducible refine below_drewN ?_ _) | (with_reducible refine Below.alloc ?_ ?_ _) | (with_reducible refine Below.drew ?_) | (with_reducible refine Below.setCell ?_ ?_ _) | go_size)))).mono ?_; rintro e w1 ⟨rfl, hb1⟩
      rw [← HW0.out] at hb1
      have e00 := (K1.out.keep (by omega) hb1) 0 _ rfl
      have e21 := (K2.out.keep k3 hb1) 1 _ rfl
      go_wp2_with fail
      go_step3
      go_wp2_with fail
      (try rw [Exit.noGoto_ret]); go_ret
      exact ⟨by rw [hs.out]; rfl, k4.trans (hb1.mono k4.size)⟩
  rw [if_neg d1] at HD
  by_cases d2 : oa = 2
  · subst d2
    rw [if_pos rfl] at HD
    have hs := HD
    generalize varP p o a = vb at *
    generalize p.consts.length = n0 at *
    generalize p.vars.length = n1 at *
    generalize p.blocks.length = n2 at *
    generalize p.units.length = n3 at *
    clear hx hxf f4
    go_enter Tryz.func100, Tryz.ntmps100
    go_wp2_with fail
    go_step3
    go_wp2_with fail
    refine (hS _ (by (repeat' (first | (with_reducible exact Below.refl _ _) | (with_reducible assumption) | (with_reducible refine below_drewN ?_ _) | (with_reducible refine Below.alloc ?_ ?_ _) | (with_reducible refine Below.drew ?_) | (with_reducible refine Below.setCell ?_ ?_ _) | go_size)))).mono ?_; rintro e w1 ⟨rfl, hb1⟩
    rw [← HW0.out] at hb1
    have e00 := (K1.out.keep (by omega) hb1) 0 _ rfl
    have e01 := (K1.out.keep (by omega) hb1) 1 _ rfl
    have e02 := (K1.out.keep (by omega) hb1) 2 _ rfl
    have e03 := (K1.out.keep (by omega) hb1) 3 _ rfl
    have e20 := (K2.out.keep k3 hb1) 0 _ rfl
    have e21 := (K2.out.keep k3 hb1) 1 _ rfl
    have e22 := (K2.out.keep k3 hb1) 2 _ rfl
    go_wp2_with fail
    go_step3
    go_wp2_with fail
    refine (HV.out _ (k4.trans (hb1.mono k4.size))).mono ?_; rintro e w2 ⟨rfl, hb2⟩
    have hb1 := hb1.trans (hb2.mono hb1.size)
    go_wp2_with fail
    (try rw [Exit.noGoto_ret]); go_ret
    exact ⟨by rw [hs.out]; rfl, k4.trans (hb1.mono k4.size)⟩
  rw [if_neg d2] at HD
  by_cases d3 : oa = 3
  · subst d3
    rw [if_pos rfl] at HD
    generalize p.consts.length = n0 at *
    generalize p.vars.length = n1 at *
    generalize p.blocks.length = n2 at *
    generalize p.units.length = n3 at *
    generalize slotsN x = sn at *
    by_cases g : a < (sn : Int)
    all_goals
      have hs := Lib.hid (HD.out.trans (by first | exact decide_eq_true g | exact decide_eq_false g))
      first | have qg2 := eq_false g | have qg2 := eq_true g
      have qi : ((i : Int) < (n3 : Int)) = True := eq_true (by omega)
      clear g hx hxf f4
      go_enter Tryz.func100, Tryz.ntmps100
      go_wp2_with fail
      go_step3
      go_wp2_with fail
      refine (hS _ (by (repeat' (first | (with_reducible exact Below.refl _ _) | (with_reducible assumption) | (with_reducible refine below_drewN ?_ _) | (with_reducible refine Below.alloc ?_ ?_ _) | (with_reducible refine Below.drew ?_) | (with_reducible refine Below.setCell ?_ ?_ _) | go_size)))).mono ?_; rintro e w1 ⟨rfl, hb1⟩
      rw [← HW0.out] at hb1
      have e03 := (K1.out.keep (by omega) hb1) 3 _ rfl
      have e21 := (K2.out.keep k3 hb1) 1 _ rfl
      have hb1w := k4.trans (hb1.mono k4.size)
      have z1 := Nat.lt_of_lt_of_le k3 hb1.size
      have z3 : b3 < w1.heap.size := Nat.lt_of_lt_of_le hbw3 hb1w.size
      have C0 := (hb1w.cell (p := ⟨b3, off3 + i * 5, none⟩) hbw3).trans c0
      have C1 := (hb1w.cell (p := ⟨b3, off3 + i * 5 + 1, none⟩) hbw3).trans c1
      have C2 := (hb1w.cell (p := ⟨b3, off3 + i * 5 + 2, none⟩) hbw3).trans c2
      have C3 := (hb1w.cell (p := ⟨b3, off3 + i * 5 + 3, none⟩) hbw3).trans c3
      have C4 := (hb1w.cell (p := ⟨b3, off3 + i * 5 + 4, none⟩) hbw3).trans c4
      go_wp2_with fail
      go_step3
      go_wp2_with fail
      refine wp_region_held_drew (S := (fun w' => Below w1.heap.size w1 w')) (by kernel_rfl) ?_ (fun hHeld => ?_)
      · (try dsimp only); first | assumption | exact Below.alloc hHeld hHeld.size _ | exact (Below.refl _ _).drew | exact Below.drew (Below.refl _ _) | exact Below_drewN _ _ _ | exact Below.refl _ _ | (trace_state; fail)
      refine wpAnyH_take (i := 0) (oi := { dst := some 32, op := Op.fieldAddr 40 (Operand.tmp 5) 1, type := 0, pos := _, after := #[], guard := none }) (v := ?_) rfl (by kernel_rfl) (by kernel_rfl) (by kernel_rfl) (fun _ _ _ h => h) (Or.inl ⟨by rfl, ?_⟩) (by assumption) ?_
      rotate_left
      · intro wt hSw; (try dsimp only at hSw); have e03 := cellB hSw e03 (by omega); have e21 := cellB hSw e21 (by omega); have C0 := cellB hSw C0 (by omega); have C1 := cellB hSw C1 (by omega); have C2 := cellB hSw C2 (by omega); have C3 := cellB hSw C3 (by omega); have C4 := cellB hSw C4 (by omega); first | (go_simp; done) | (go_simp; with_reducible rfl) | (trace_state; fail)
      try simp only [Act.put, List.setIfInBounds_toArray, List.set_cons_zero, List.set_cons_succ]
      refine wpAnyH_take (i := 1) (oi := { dst := some 33, op := Op.load 3 (Operand.tmp 32), type := 3, pos := _, after := #[{ on := 0, ground := Ground.data }], guard := none }) (v := ?_) rfl (by kernel_rfl) (by kernel_rfl) (by kernel_rfl) (fun _ _ _ h => h) (Or.inl ⟨by rfl, ?_⟩) (by assumption) ?_
      rotate_left
      · intro wt hSw; (try dsimp only at hSw); have e03 := cellB hSw e03 (by omega); have e21 := cellB hSw e21 (by omega); have C0 := cellB hSw C0 (by omega); have C1 := cellB hSw C1 (by omega); have C2 := cellB hSw C2 (by omega); have C3 := cellB hSw C3 (by omega); have C4 := cellB hSw C4 (by omega); first | (go_simp; done) | (go_simp; with_reducible rfl) | (trace_state; fail)
      try simp only [Act.put, List.setIfInBounds_toArray, List.set_cons_zero, List.set_cons_succ]
      refine wpAnyH_take (i := 2) (oi := { dst := some 34, op := Op.fieldAddr 27 (Operand.tmp 3) 3, type := 0, pos := _, after := #[], guard := none }) (v := ?_) rfl (by kernel_rfl) (by kernel_rfl) (by kernel_rfl) (fun _ _ _ h => h) (Or.inl ⟨by rfl, ?_⟩) (by assumption) ?_
      rotate_left
      · intro wt hSw; (try dsimp only at hSw); have e03 := cellB hSw e03 (by omega); have e21 := cellB hSw e21 (by omega); have C0 := cellB hSw C0 (by omega); have C1 := cellB hSw C1 (by omega); have C2 := cellB hSw C2 (by omega); have C3 := cellB hSw C3 (by omega); have C4 := cellB hSw C4 (by omega); first | (go_simp; done) | (go_simp; with_reducible rfl) | (trace_state; fail)
      try simp only [Act.put, List.setIfInBounds_toArray, List.set_cons_zero, List.set_cons_succ]
      refine wpAnyH_take (i := 3) (oi := { dst := some 35, op := Op.load 25 (Operand.tmp 34), type := 25, pos := _, after := #[{ on := 2, ground := Ground.data }], guard := none }) (v := ?_) rfl (by kernel_rfl) (by kernel_rfl) (by kernel_rfl) (fun _ _ _ h => h) (Or.inl ⟨by rfl, ?_⟩) (by assumption) ?_
      rotate_left
      · intro wt hSw; (try dsimp only at hSw); have e03 := cellB hSw e03 (by omega); have e21 := cellB hSw e21 (by omega); have C0 := cellB hSw C0 (by omega); have C1 := cellB hSw C1 (by omega); have C2 := cellB hSw C2 (by omega); have C3 := cellB hSw C3 (by omega); have C4 := cellB hSw C4 (by omega); first | (go_simp; done) | (go_simp; with_reducible rfl) | (trace_state; fail)
      try simp only [Act.put, List.setIfInBounds_toArray, List.set_cons_zero, List.set_cons_succ]
      refine wpAnyH_take (i := 4) (oi := { dst := some 36, op := Op.move (Operand.tmp 1), type := 3, pos := _, after := #[], guard := none }) (v := ?_) rfl (by kernel_rfl) (by kernel_rfl) (by kernel_rfl) (fun _ _ _ h => h) (Or.inl ⟨by rfl, ?_⟩) (by assumption) ?_
      rotate_left
      · intro wt hSw; (try dsimp only at hSw); have e03 := cellB hSw e03 (by omega); have e21 := cellB hSw e21 (by omega); have C0 := cellB hSw C0 (by omega); have C1 := cellB hSw C1 (by omega); have C2 := cellB hSw C2 (by omega); have C3 := cellB hSw C3 (by omega); have C4 := cellB hSw C4 (by omega); first | (go_simp; done) | (go_simp; with_reducible rfl) | (trace_state; fail)
      try simp only [Act.put, List.setIfInBounds_toArray, List.set_cons_zero, List.set_cons_succ]
      refine wpAnyH_take (i := 5) (oi := { dst := some 37, op := Op.indexAddr 25 (Operand.tmp 35) (Operand.tmp 36), type := 0, pos := _, after := #[{ on := 3, ground := Ground.data }, { on := 4, ground := Ground.data }], guard := none }) (v := ?_) rfl (by kernel_rfl) (by kernel_rfl) (by kernel_rfl) (fun _ _ _ h => h) (Or.inl ⟨by rfl, ?_⟩) (by assumption) ?_
      rotate_left
      · intro wt hSw; (try dsimp only at hSw); have e03 := cellB hSw e03 (by omega); have e21 := cellB hSw e21 (by omega); have C0 := cellB hSw C0 (by omega); have C1 := cellB hSw C1 (by omega); have C2 := cellB hSw C2 (by omega); have C3 := cellB hSw C3 (by omega); have C4 := cellB hSw C4 (by omega); first | (go_simp; done) | (go_simp; with_reducible rfl) | (trace_state; fail)
      try simp only [Act.put, List.setIfInBounds_toArray, List.set_cons_zero, List.set_cons_succ]
      refine wpAnyH_take (i := 6) (oi := { dst := some 38, op := Op.load 38 (Operand.tmp 37), type := 38, pos := _, after := #[{ on := 5, ground := Ground.data }], guard := none }) (v := ?_) rfl (by kernel_rfl) (by kernel_rfl) (by kernel_rfl) (fun _ _ _ h => h) (Or.inl ⟨by rfl, ?_⟩) (by assumption) ?_
      rotate_left
      · intro wt hSw; (try dsimp only at hSw); have e03 := cellB hSw e03 (by omega); have e21 := cellB hSw e21 (by omega); have C0 := cellB hSw C0 (by omega); have C1 := cellB hSw C1 (by omega); have C2 := cellB hSw C2 (by omega); have C3 := cellB hSw C3 (by omega); have C4 := cellB hSw C4 (by omega); first | (go_simp; done) | (go_simp; with_reducible rfl) | (trace_state; fail)
      try simp only [Act.put, List.setIfInBounds_toArray, List.set_cons_zero, List.set_cons_succ]
      refine wpAnyH_ready (rs := [7]) (by kernel_rfl) (by simp) ?_
      refine AllReadyH.cons (o := { dst := some 39, op := Op.call { callee := Callee.value (Operand.func 115), args := #[Operand.tmp 38], argTypes := #[38] }, type := 3, pos := _, after := #[{ on := 6, ground := Ground.data }], guard := none }) rfl (fun K hK => ?_) AllReadyH.nil
      go_simp
      refine (HS.out _ (hb1w.trans (hHeld.mono hb1w.size))).mono ?_; rintro e w2 ⟨rfl, hb2⟩; have hHeld := hHeld.trans (hb2.mono hHeld.size); clear hb2
      go_wp2_with fail
      refine hK.out _ _ ?_ (fun hHeld => ?_)
      · (try dsimp only); first | assumption | exact Below.alloc hHeld hHeld.size _ | exact (Below.refl _ _).drew | exact Below.drew (Below.refl _ _) | exact Below_drewN _ _ _ | exact Below.refl _ _ | (trace_state; fail)
      clear hK K
      try simp only [Act.put, List.setIfInBounds_toArray, List.set_cons_zero, List.set_cons_succ]
      refine wpAnyH_take (i := 8) (oi := { dst := some 40, op := Op.binOp BinOp.lss 3 (Operand.tmp 33) (Operand.tmp 39) 3, type := 4, pos := _, after := #[{ on := 1, ground := Ground.data }, { on := 7, ground := Ground.data }], guard := none }) (v := ?_) rfl (by kernel_rfl) (by kernel_rfl) (by kernel_rfl) (fun _ _ _ h => h) (Or.inl ⟨by rfl, ?_⟩) (by assumption) ?_
      rotate_left
      · intro wt hSw; (try dsimp only at hSw); have e03 := cellB hSw e03 (by omega); have e21 := cellB hSw e21 (by omega); have C0 := cellB hSw C0 (by omega); have C1 := cellB hSw C1 (by omega); have C2 := cellB hSw C2 (by omega); have C3 := cellB hSw C3 (by omega); have C4 := cellB hSw C4 (by omega); first | (go_simp; done) | (go_simp; with_reducible rfl) | (trace_state; fail)
      try simp only [Act.put, List.setIfInBounds_toArray, List.set_cons_zero, List.set_cons_succ]
      refine wpAnyH_take (i := 9) (oi := { dst := some 9, op := Op.assign (Operand.tmp 40), type := 4, pos := _, after := #[{ on := 8, ground := Ground.data }, { on := 7, ground := Ground.chain }, { on := 0, ground := Ground.phase }, { on := 1, ground := Ground.phase }, { on := 2, ground := Ground.phase }, { on := 3, ground := Ground.phase }, { on := 4, ground := Ground.phase }, { on := 5, ground := Ground.phase }, { on := 6, ground := Ground.phase }, { on := 7, ground := Ground.phase }, { on := 8, ground := Ground.phase }], guard := none }) (v := ?_) rfl (by kernel_rfl) (by kernel_rfl) (by kernel_rfl) (fun _ _ _ h => h) (Or.inl ⟨by rfl, ?_⟩) (by assumption) ?_
      rotate_left
      · intro wt hSw; (try dsimp only at hSw); have e03 := cellB hSw e03 (by omega); have e21 := cellB hSw e21 (by omega); have C0 := cellB hSw C0 (by omega); have C1 := cellB hSw C1 (by omega); have C2 := cellB hSw C2 (by omega); have C3 := cellB hSw C3 (by omega); have C4 := cellB hSw C4 (by omega); first | (go_simp; done) | (go_simp; with_reducible rfl) | (trace_state; fail)
      try simp only [Act.put, List.setIfInBounds_toArray, List.set_cons_zero, List.set_cons_succ]
      refine wpAnyH_done (by kernel_rfl) ?_ _
      go_wp2_with fail
      (try rw [Exit.noGoto_ret]); go_ret
      exact ⟨by rw [hs.out]; rfl, hb1w.trans (hHeld.mono hb1w.size)⟩
  rw [if_neg d3] at HD
  by_cases d7 : oa = 7
  · subst d7
    rw [if_pos rfl] at HD
    generalize p.consts.length = n0 at *
    generalize p.vars.length = n1 at *
    generalize p.blocks.length = n2 at *
    generalize p.units.length = n3 at *
    by_cases g1 : 0 < a
    · have r1 : (0 < a) = True := eq_true g1
      by_cases g2 : a < (n3 : Int)
      · have r2 : (a < (n3 : Int)) = True := eq_true g2
        have hs := Lib.hid (HD.out.trans (decide_eq_true ⟨g1, g2⟩))
        clear g1 g2 hx hxf f4
        go_enter Tryz.func100, Tryz.ntmps100
        go_wp2_with fail
        go_step3
        go_wp2_with fail
        refine (hS _ (by (repeat' (first | (with_reducible exact Below.refl _ _) | (with_reducible assumption) | (with_reducible refine below_drewN ?_ _) | (with_reducible refine Below.alloc ?_ ?_ _) | (with_reducible refine Below.drew ?_) | (with_reducible refine Below.setCell ?_ ?_ _) | go_size)))).mono ?_; rintro e w1 ⟨rfl, hb1⟩
        rw [← HW0.out] at hb1
        have e03 := (K1.out.keep (by omega) hb1) 3 _ rfl
        have e21 := (K2.out.keep k3 hb1) 1 _ rfl
        go_wp2_with fail
        go_step3
        go_wp2_with fail
        (try rw [Exit.noGoto_ret]); go_ret
        exact ⟨by rw [hs.out]; rfl, k4.trans (hb1.mono k4.size)⟩
      · have r2 : (a < (n3 : Int)) = False := eq_false g2
        have hs := Lib.hid (HD.out.trans (decide_eq_false (fun q => g2 q.2)))
        clear g1 g2 hx hxf f4
        go_enter Tryz.func100, Tryz.ntmps100
        go_wp2_with fail
        go_step3
        go_wp2_with fail
        refine (hS _ (by (repeat' (first | (with_reducible exact Below.refl _ _) | (with_reducible assumption) | (with_reducible refine below_drewN ?_ _) | (with_reducible refine Below.alloc ?_ ?_ _) | (with_reducible refine Below.drew ?_) | (with_reducible refine Below.setCell ?_ ?_ _) | go_size)))).mono ?_; rintro e w1 ⟨rfl, hb1⟩
        rw [← HW0.out] at hb1
        have e03 := (K1.out.keep (by omega) hb1) 3 _ rfl
        have e21 := (K2.out.keep k3 hb1) 1 _ rfl
        go_wp2_with fail
        go_step3
        go_wp2_with fail
        (try rw [Exit.noGoto_ret]); go_ret
        exact ⟨by rw [hs.out]; rfl, k4.trans (hb1.mono k4.size)⟩
    · have r1 : (0 < a) = False := eq_false g1
      have hs := Lib.hid (HD.out.trans (decide_eq_false (fun q => g1 q.1)))
      clear g1 hx hxf f4
      go_enter Tryz.func100, Tryz.ntmps100
      go_wp2_with fail
      go_step3
      go_wp2_with fail
      refine (hS _ (by (repeat' (first | (with_reducible exact Below.refl _ _) | (with_reducible assumption) | (with_reducible refine below_drewN ?_ _) | (with_reducible refine Below.alloc ?_ ?_ _) | (with_reducible refine Below.drew ?_) | (with_reducible refine Below.setCell ?_ ?_ _) | go_size)))).mono ?_; rintro e w1 ⟨rfl, hb1⟩
      rw [← HW0.out] at hb1
      have e03 := (K1.out.keep (by omega) hb1) 3 _ rfl
      have e21 := (K2.out.keep k3 hb1) 1 _ rfl
      go_wp2_with fail
      go_step3
      go_wp2_with fail
      (try rw [Exit.noGoto_ret]); go_ret
      exact ⟨by rw [hs.out]; rfl, k4.trans (hb1.mono k4.size)⟩
  rw [if_neg d7] at HD
  by_cases d8 : oa = 8
  · subst d8
    rw [if_pos rfl] at HD
    by_cases g1 : a < p.blocks.length
    · obtain ⟨ka, rfl⟩ := Int.eq_ofNat_of_zero_le ha
      obtain ⟨y, hy⟩ := get_some (L := p.blocks) (n := ka) (by omega)
      have hky : kindAt p ka = y.kind := by unfold kindAt; simp [List.getD, hy]
      rw [hky] at HD
      obtain ⟨b2, off2, rfl, hbw2, hc2⟩ := blk_at hbk (k := ka) (lt_of_get hy)
      obtain ⟨_, c1', _, _⟩ := hc2 ka y hy
      have r1 : ((ka : Int) < (p.blocks.length : Int)) = True := eq_true g1
      have r2 : ((p.blocks.length : Int) ≤ (ka : Int)) = False := eq_false (by omega)
      generalize hkk : y.kind = kk at *
      clear hc2 hy hky hkk hbk hv
      by_cases d9 : ob = 9
      · subst d9
        generalize hrn : reachN o kk = rn at *
        have hrN := Lib.hid hrn
        clear hrn
        generalize p.consts.length = n0 at *
        generalize p.vars.length = n1 at *
        generalize p.blocks.length = n2 at *
        generalize p.units.length = n3 at *
        by_cases g : b < rn
        all_goals
          have hs := Lib.hid (HD.out.trans (by first | exact decide_eq_true ⟨g1, fun _ => g⟩ | exact decide_eq_false (fun q => g (q.2 rfl))))
          first | have qg2 := eq_false g | have qg2 := eq_true g
          clear g hx hxf f4
          go_enter Tryz.func100, Tryz.ntmps100
          go_wp2_with fail
          go_step3
          go_wp2_with fail
          refine (hS _ (by (repeat' (first | (with_reducible exact Below.refl _ _) | (with_reducible assumption) | (with_reducible refine below_drewN ?_ _) | (with_reducible refine Below.alloc ?_ ?_ _) | (with_reducible refine Below.drew ?_) | (with_reducible refine Below.setCell ?_ ?_ _) | go_size)))).mono ?_; rintro e w1 ⟨rfl, hb1⟩
          rw [← HW0.out] at hb1
          have e02 := (K1.out.keep (by omega) hb1) 2 _ rfl
          have e20 := (K2.out.keep k3 hb1) 0 _ rfl
          have e21 := (K2.out.keep k3 hb1) 1 _ rfl
          have e22 := (K2.out.keep k3 hb1) 2 _ rfl
          have hb1w := k4.trans (hb1.mono k4.size)
          have z1 := Nat.lt_of_lt_of_le k3 hb1.size
          have z2 : b2 < w1.heap.size := Nat.lt_of_lt_of_le hbw2 hb1w.size
          have C1 := (hb1w.cell (p := ⟨b2, off2 + ka * 2 + 1, none⟩) hbw2).trans c1'
          go_wp2_with fail
          go_step3
          go_wp2_with fail
          refine wp_region_held_drew (S := (fun w' => Below w1.heap.size w1 w')) (by kernel_rfl) ?_ (fun hHeld => ?_)
          · (try dsimp only); first | assumption | exact Below.alloc hHeld hHeld.size _ | exact (Below.refl _ _).drew | exact Below.drew (Below.refl _ _) | exact Below_drewN _ _ _ | exact Below.refl _ _ | (trace_state; fail)
          refine wpAnyH_take (i := 0) (oi := { dst := some 64, op := Op.fieldAddr 40 (Operand.tmp 5) 2, type := 0, pos := _, after := #[], guard := none }) (v := ?_) rfl (by kernel_rfl) (by kernel_rfl) (by kernel_rfl) (fun _ _ _ h => h) (Or.inl ⟨by rfl, ?_⟩) (by assumption) ?_
          rotate_left
          · intro wt hSw; (try dsimp only at hSw); have e02 := cellB hSw e02 (by omega); have e20 := cellB hSw e20 (by omega); have e21 := cellB hSw e21 (by omega); have e22 := cellB hSw e22 (by omega); have C1 := cellB hSw C1 (by omega); first | (go_simp; done) | (go_simp; with_reducible rfl) | (trace_state; fail)
          try simp only [Act.put, List.setIfInBounds_toArray, List.set_cons_zero, List.set_cons_succ]
          refine wpAnyH_take (i := 1) (oi := { dst := some 65, op := Op.load 3 (Operand.tmp 64), type := 3, pos := _, after := #[{ on := 0, ground := Ground.data }], guard := none }) (v := ?_) rfl (by kernel_rfl) (by kernel_rfl) (by kernel_rfl) (fun _ _ _ h => h) (Or.inl ⟨by rfl, ?_⟩) (by assumption) ?_
          rotate_left
          · intro wt hSw; (try dsimp only at hSw); have e02 := cellB hSw e02 (by omega); have e20 := cellB hSw e20 (by omega); have e21 := cellB hSw e21 (by omega); have e22 := cellB hSw e22 (by omega); have C1 := cellB hSw C1 (by omega); first | (go_simp; done) | (go_simp; with_reducible rfl) | (trace_state; fail)
          try simp only [Act.put, List.setIfInBounds_toArray, List.set_cons_zero, List.set_cons_succ]
          refine wpAnyH_take (i := 2) (oi := { dst := some 66, op := Op.fieldAddr 40 (Operand.tmp 5) 0, type := 0, pos := _, after := #[], guard := none }) (v := ?_) rfl (by kernel_rfl) (by kernel_rfl) (by kernel_rfl) (fun _ _ _ h => h) (Or.inl ⟨by rfl, ?_⟩) (by assumption) ?_
          rotate_left
          · intro wt hSw; (try dsimp only at hSw); have e02 := cellB hSw e02 (by omega); have e20 := cellB hSw e20 (by omega); have e21 := cellB hSw e21 (by omega); have e22 := cellB hSw e22 (by omega); have C1 := cellB hSw C1 (by omega); first | (go_simp; done) | (go_simp; with_reducible rfl) | (trace_state; fail)
          try simp only [Act.put, List.setIfInBounds_toArray, List.set_cons_zero, List.set_cons_succ]
          refine wpAnyH_take (i := 3) (oi := { dst := some 67, op := Op.load 3 (Operand.tmp 66), type := 3, pos := _, after := #[{ on := 2, ground := Ground.data }], guard := none }) (v := ?_) rfl (by kernel_rfl) (by kernel_rfl) (by kernel_rfl) (fun _ _ _ h => h) (Or.inl ⟨by rfl, ?_⟩) (by assumption) ?_
          rotate_left
          · intro wt hSw; (try dsimp only at hSw); have e02 := cellB hSw e02 (by omega); have e20 := cellB hSw e20 (by omega); have e21 := cellB hSw e21 (by omega); have e22 := cellB hSw e22 (by omega); have C1 := cellB hSw C1 (by omega); first | (go_simp; done) | (go_simp; with_reducible rfl) | (trace_state; fail)
          try simp only [Act.put, List.setIfInBounds_toArray, List.set_cons_zero, List.set_cons_succ]
          refine wpAnyH_take (i := 4) (oi := { dst := some 68, op := Op.fieldAddr 27 (Operand.tmp 3) 2, type := 0, pos := _, after := #[], guard := none }) (v := ?_) rfl (by kernel_rfl) (by kernel_rfl) (by kernel_rfl) (fun _ _ _ h => h) (Or.inl ⟨by rfl, ?_⟩) (by assumption) ?_
          rotate_left
          · intro wt hSw; (try dsimp only at hSw); have e02 := cellB hSw e02 (by omega); have e20 := cellB hSw e20 (by omega); have e21 := cellB hSw e21 (by omega); have e22 := cellB hSw e22 (by omega); have C1 := cellB hSw C1 (by omega); first | (go_simp; done) | (go_simp; with_reducible rfl) | (trace_state; fail)
          try simp only [Act.put, List.setIfInBounds_toArray, List.set_cons_zero, List.set_cons_succ]
          refine wpAnyH_take (i := 5) (oi := { dst := some 69, op := Op.load 24 (Operand.tmp 68), type := 24, pos := _, after := #[{ on := 4, ground := Ground.data }], guard := none }) (v := ?_) rfl (by kernel_rfl) (by kernel_rfl) (by kernel_rfl) (fun _ _ _ h => h) (Or.inl ⟨by rfl, ?_⟩) (by assumption) ?_
          rotate_left
          · intro wt hSw; (try dsimp only at hSw); have e02 := cellB hSw e02 (by omega); have e20 := cellB hSw e20 (by omega); have e21 := cellB hSw e21 (by omega); have e22 := cellB hSw e22 (by omega); have C1 := cellB hSw C1 (by omega); first | (go_simp; done) | (go_simp; with_reducible rfl) | (trace_state; fail)
          try simp only [Act.put, List.setIfInBounds_toArray, List.set_cons_zero, List.set_cons_succ]
          refine wpAnyH_take (i := 6) (oi := { dst := some 70, op := Op.fieldAddr 40 (Operand.tmp 5) 1, type := 0, pos := _, after := #[], guard := none }) (v := ?_) rfl (by kernel_rfl) (by kernel_rfl) (by kernel_rfl) (fun _ _ _ h => h) (Or.inl ⟨by rfl, ?_⟩) (by assumption) ?_
          rotate_left
          · intro wt hSw; (try dsimp only at hSw); have e02 := cellB hSw e02 (by omega); have e20 := cellB hSw e20 (by omega); have e21 := cellB hSw e21 (by omega); have e22 := cellB hSw e22 (by omega); have C1 := cellB hSw C1 (by omega); first | (go_simp; done) | (go_simp; with_reducible rfl) | (trace_state; fail)
          try simp only [Act.put, List.setIfInBounds_toArray, List.set_cons_zero, List.set_cons_succ]
          refine wpAnyH_take (i := 7) (oi := { dst := some 71, op := Op.load 3 (Operand.tmp 70), type := 3, pos := _, after := #[{ on := 6, ground := Ground.data }], guard := none }) (v := ?_) rfl (by kernel_rfl) (by kernel_rfl) (by kernel_rfl) (fun _ _ _ h => h) (Or.inl ⟨by rfl, ?_⟩) (by assumption) ?_
          rotate_left
          · intro wt hSw; (try dsimp only at hSw); have e02 := cellB hSw e02 (by omega); have e20 := cellB hSw e20 (by omega); have e21 := cellB hSw e21 (by omega); have e22 := cellB hSw e22 (by omega); have C1 := cellB hSw C1 (by omega); first | (go_simp; done) | (go_simp; with_reducible rfl) | (trace_state; fail)
          try simp only [Act.put, List.setIfInBounds_toArray, List.set_cons_zero, List.set_cons_succ]
          refine wpAnyH_take (i := 8) (oi := { dst := some 72, op := Op.indexAddr 24 (Operand.tmp 69) (Operand.tmp 71), type := 0, pos := _, after := #[{ on := 5, ground := Ground.data }, { on := 7, ground := Ground.data }], guard := none }) (v := ?_) rfl (by kernel_rfl) (by kernel_rfl) (by kernel_rfl) (fun _ _ _ h => h) (Or.inl ⟨by rfl, ?_⟩) (by assumption) ?_
          rotate_left
          · intro wt hSw; (try dsimp only at hSw); have e02 := cellB hSw e02 (by omega); have e20 := cellB hSw e20 (by omega); have e21 := cellB hSw e21 (by omega); have e22 := cellB hSw e22 (by omega); have C1 := cellB hSw C1 (by omega); first | (go_simp; done) | (go_simp; with_reducible rfl) | (trace_state; fail)
          try simp only [Act.put, List.setIfInBounds_toArray, List.set_cons_zero, List.set_cons_succ]
          refine wpAnyH_take (i := 9) (oi := { dst := some 73, op := Op.fieldAddr 44 (Operand.tmp 72) 1, type := 0, pos := _, after := #[{ on := 8, ground := Ground.data }], guard := none }) (v := ?_) rfl (by kernel_rfl) (by kernel_rfl) (by kernel_rfl) (fun _ _ _ h => h) (Or.inl ⟨by rfl, ?_⟩) (by assumption) ?_
          rotate_left
          · intro wt hSw; (try dsimp only at hSw); have e02 := cellB hSw e02 (by omega); have e20 := cellB hSw e20 (by omega); have e21 := cellB hSw e21 (by omega); have e22 := cellB hSw e22 (by omega); have C1 := cellB hSw C1 (by omega); first | (go_simp; done) | (go_simp; with_reducible rfl) | (trace_state; fail)
          try simp only [Act.put, List.setIfInBounds_toArray, List.set_cons_zero, List.set_cons_succ]
          refine wpAnyH_take (i := 10) (oi := { dst := some 74, op := Op.load 3 (Operand.tmp 73), type := 3, pos := _, after := #[{ on := 9, ground := Ground.data }], guard := none }) (v := ?_) rfl (by kernel_rfl) (by kernel_rfl) (by kernel_rfl) (fun _ _ _ h => h) (Or.inl ⟨by rfl, ?_⟩) (by assumption) ?_
          rotate_left
          · intro wt hSw; (try dsimp only at hSw); have e02 := cellB hSw e02 (by omega); have e20 := cellB hSw e20 (by omega); have e21 := cellB hSw e21 (by omega); have e22 := cellB hSw e22 (by omega); have C1 := cellB hSw C1 (by omega); first | (go_simp; done) | (go_simp; with_reducible rfl) | (trace_state; fail)
          try simp only [Act.put, List.setIfInBounds_toArray, List.set_cons_zero, List.set_cons_succ]
          refine wpAnyH_ready (rs := [11]) (by kernel_rfl) (by simp) ?_
          refine AllReadyH.cons (o := { dst := some 75, op := Op.call { callee := Callee.value (Operand.func 116), args := #[Operand.tmp 67, Operand.tmp 74], argTypes := #[3, 3] }, type := 3, pos := _, after := #[{ on := 3, ground := Ground.data }, { on := 10, ground := Ground.data }], guard := none }) rfl (fun K hK => ?_) AllReadyH.nil
          go_simp
          refine (hBS.out _ (hb1w.trans (hHeld.mono hb1w.size)) kk).mono ?_; rintro e w2 ⟨rfl, rfl⟩; rw [hrN.out]
          go_wp2_with fail
          refine hK.out _ _ ?_ (fun hHeld => ?_)
          · (try dsimp only); first | assumption | exact Below.alloc hHeld hHeld.size _ | exact (Below.refl _ _).drew | exact Below.drew (Below.refl _ _) | exact Below_drewN _ _ _ | exact Below.refl _ _ | (trace_state; fail)
          clear hK K
          try simp only [Act.put, List.setIfInBounds_toArray, List.set_cons_zero, List.set_cons_succ]
          refine wpAnyH_take (i := 12) (oi := { dst := some 76, op := Op.binOp BinOp.lss 3 (Operand.tmp 65) (Operand.tmp 75) 3, type := 4, pos := _, after := #[{ on := 1, ground := Ground.data }, { on := 11, ground := Ground.data }], guard := none }) (v := ?_) rfl (by kernel_rfl) (by kernel_rfl) (by kernel_rfl) (fun _ _ _ h => h) (Or.inl ⟨by rfl, ?_⟩) (by assumption) ?_
          rotate_left
          · intro wt hSw; (try dsimp only at hSw); have e02 := cellB hSw e02 (by omega); have e20 := cellB hSw e20 (by omega); have e21 := cellB hSw e21 (by omega); have e22 := cellB hSw e22 (by omega); have C1 := cellB hSw C1 (by omega); first | (go_simp; done) | (go_simp; with_reducible rfl) | (trace_state; fail)
          try simp only [Act.put, List.setIfInBounds_toArray, List.set_cons_zero, List.set_cons_succ]
          refine wpAnyH_take (i := 13) (oi := { dst := some 9, op := Op.assign (Operand.tmp 76), type := 4, pos := _, after := #[{ on := 12, ground := Ground.data }, { on := 11, ground := Ground.chain }, { on := 0, ground := Ground.phase }, { on := 1, ground := Ground.phase }, { on := 2, ground := Ground.phase }, { on := 3, ground := Ground.phase }, { on := 4, ground := Ground.phase }, { on := 5, ground := Ground.phase }, { on := 6, ground := Ground.phase }, { on := 7, ground := Ground.phase }, { on := 8, ground := Ground.phase }, { on := 9, ground := Ground.phase }, { on := 10, ground := Ground.phase }, { on := 11, ground := Ground.phase }, { on := 12, ground := Ground.phase }], guard := none }) (v := ?_) rfl (by kernel_rfl) (by kernel_rfl) (by kernel_rfl) (fun _ _ _ h => h) (Or.inl ⟨by rfl, ?_⟩) (by assumption) ?_
          rotate_left
          · intro wt hSw; (try dsimp only at hSw); have e02 := cellB hSw e02 (by omega); have e20 := cellB hSw e20 (by omega); have e21 := cellB hSw e21 (by omega); have e22 := cellB hSw e22 (by omega); have C1 := cellB hSw C1 (by omega); first | (go_simp; done) | (go_simp; with_reducible rfl) | (trace_state; fail)
          try simp only [Act.put, List.setIfInBounds_toArray, List.set_cons_zero, List.set_cons_succ]
          refine wpAnyH_done (by kernel_rfl) ?_ _
          go_wp2_with fail
          (try rw [Exit.noGoto_ret]); go_ret
          exact ⟨by rw [hs.out]; rfl, hb1w.trans (hHeld.mono hb1w.size)⟩
      · have q9 : (ob == 9) = false := by simpa using d9
        have hs := Lib.hid (HD.out.trans (decide_eq_true ⟨g1, fun q => absurd q d9⟩))
        generalize p.consts.length = n0 at *
        generalize p.vars.length = n1 at *
        generalize p.blocks.length = n2 at *
        generalize p.units.length = n3 at *
        clear d9 hx hxf f4
        go_enter Tryz.func100, Tryz.ntmps100
        go_wp2_with fail
        go_step3
        go_wp2_with fail
        refine (hS _ (by (repeat' (first | (with_reducible exact Below.refl _ _) | (with_reducible assumption) | (with_reducible refine below_drewN ?_ _) | (with_reducible refine Below.alloc ?_ ?_ _) | (with_reducible refine Below.drew ?_) | (with_reducible refine Below.setCell ?_ ?_ _) | go_size)))).mono ?_; rintro e w1 ⟨rfl, hb1⟩
        rw [← HW0.out] at hb1
        have e02 := (K1.out.keep (by omega) hb1) 2 _ rfl
        have e20 := (K2.out.keep k3 hb1) 0 _ rfl
        have e21 := (K2.out.keep k3 hb1) 1 _ rfl
        have e22 := (K2.out.keep k3 hb1) 2 _ rfl
        go_wp2_with fail
        go_step3
        go_wp2_with fail
        (try rw [Exit.noGoto_ret]); go_ret
        exact ⟨by rw [hs.out]; rfl, k4.trans (hb1.mono k4.size)⟩
    · have r1 : (a < (p.blocks.length : Int)) = False := eq_false g1
      have r2 : ((p.blocks.length : Int) ≤ a) = True := eq_true (by omega)
      have hs := Lib.hid (HD.out.trans (decide_eq_false (fun q => g1 q.1)))
      generalize p.consts.length = n0 at *
      generalize p.vars.length = n1 at *
      generalize p.blocks.length = n2 at *
      generalize p.units.length = n3 at *
      clear g1 hx hxf f4
      go_enter Tryz.func100, Tryz.ntmps100
      go_wp2_with fail
      go_step3
      go_wp2_with fail
      refine (hS _ (by (repeat' (first | (with_reducible exact Below.refl _ _) | (with_reducible assumption) | (with_reducible refine below_drewN ?_ _) | (with_reducible refine Below.alloc ?_ ?_ _) | (with_reducible refine Below.drew ?_) | (with_reducible refine Below.setCell ?_ ?_ _) | go_size)))).mono ?_; rintro e w1 ⟨rfl, hb1⟩
      rw [← HW0.out] at hb1
      have e02 := (K1.out.keep (by omega) hb1) 2 _ rfl
      have e20 := (K2.out.keep k3 hb1) 0 _ rfl
      have e21 := (K2.out.keep k3 hb1) 1 _ rfl
      have e22 := (K2.out.keep k3 hb1) 2 _ rfl
      go_wp2_with fail
      go_step3
      go_wp2_with fail
      (try rw [Exit.noGoto_ret]); go_ret
      exact ⟨by rw [hs.out]; rfl, k4.trans (hb1.mono k4.size)⟩
  rw [if_neg d8] at HD
  have hs := HD
  have q1 : (oa == 1) = false := by simpa using d1
  have q2 : (oa == 2) = false := by simpa using d2
  have q3 : (oa == 3) = false := by simpa using d3
  have q7 : (oa == 7) = false := by simpa using d7
  have q8 : (oa == 8) = false := by simpa using d8
  generalize p.consts.length = n0 at *
  generalize p.vars.length = n1 at *
  generalize p.blocks.length = n2 at *
  generalize p.units.length = n3 at *
  clear d1 d2 d3 d7 d8 hx hxf f4
  go_enter Tryz.func100, Tryz.ntmps100
  go_wp2_with fail
  go_step3
  go_wp2_with fail
  refine (hS _ (by (repeat' (first | (with_reducible exact Below.refl _ _) | (with_reducible assumption) | (with_reducible refine below_drewN ?_ _) | (with_reducible refine Below.alloc ?_ ?_ _) | (with_reducible refine Below.drew ?_) | (with_reducible refine Below.setCell ?_ ?_ _) | go_size)))).mono ?_; rintro e w1 ⟨rfl, hb1⟩
  rw [← HW0.out] at hb1
  have e02 := (K1.out.keep (by omega) hb1) 2 _ rfl
  have e20 := (K2.out.keep k3 hb1) 0 _ rfl
  have e21 := (K2.out.keep k3 hb1) 1 _ rfl
  have e22 := (K2.out.keep k3 hb1) 2 _ rfl
  go_wp2_with fail
  go_step3
  go_wp2_with fail
  (try rw [Exit.noGoto_ret]); go_ret
  exact ⟨by rw [hs.out]; rfl, k4.trans (hb1.mono k4.size)⟩
theorem refs_there (pc pv pb pu : Value) (p : Pr) (u o a b : Int) (w : World) (h : PrAt w pc pv pb pu p) (hT : TabR w) (hf : fewP p = true) (hu : 0 ≤ u ∧ u < p.units.length) (ha : 0 ≤ a) :
    Calls Tryz.prog 100 #[.agg #[pc, pv, pb, pu], .int .i64 u, .agg #[.int .i64 o, .int .i64 a, .int .i64 b]] w fun e w' => e = .returned (.bool (thereP p (unAt p u) o a b)) ∧ Below w.heap.size w w' := refs_thereW pc pv pb pu p u o a b w h hT (few_wide hf) hu ha
end Go.Proofs.YtefejcofmopjfaaGreatDoor
