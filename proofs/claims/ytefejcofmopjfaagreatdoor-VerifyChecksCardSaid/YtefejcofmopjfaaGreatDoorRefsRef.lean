/- Layer 18: what is wrong with an instruction's operands, by the answer. -/
import Derived.Test.YtefejcofmopjfaaGreatDoorRefsThere
import Derived.Test.YtefejcofmopjfaaGreatDoorSlots
namespace Go.Proofs.YtefejcofmopjfaaGreatDoor
open Go.RowKit
set_option linter.unusedSimpArgs false
set_option linter.unusedVariables false
theorem typedP_n {o a b : Int} (h : o ≠ 26) (h4 : oA o ≠ 4) : typedP o a b = true := by unfold typedP; rw [if_neg h, show (oA o == 4) = false from beq_eq_false_iff_ne.2 h4]; rfl
theorem typedP_m {o a b : Int} (h : 8 ≤ o ∧ o ≤ 25) : typedP o a b = aGoes o a := by
  obtain ⟨k, rfl⟩ := Int.eq_ofNat_of_zero_le (show 0 ≤ o by omega)
  unfold typedP; rw [if_neg (by omega), (o_mid (k := k) (by omega)).1]; simp
theorem slotsL_len (x : Un) : (slotsL x).length = slotsN x := by
  unfold slotsL slotsN
  by_cases h : x.result = 0
  · rw [if_pos h, if_pos h]; simp
  · rw [if_neg h, if_neg h]; simp; omega
set_option maxRecDepth 100000 in
set_option maxHeartbeats 8000000 in
theorem ref18_One (pc pv pb pu : Value) (p : Pr) (u o a b : Int) (w : World) (h : PrAt w pc pv pb pu p) (hf : fewP p = true) :
    Calls Tryz.prog 40 #[.agg #[pc, pv, pb, pu], .int .i64 u, .agg #[.int .i64 o, .int .i64 a, .int .i64 b]] w fun e w' => e = .returned (.int .i64 (oneP p u o a b)) ∧ Below w.heap.size w w' := by
  have cp := @cell_past
  obtain ⟨⟨f0, f1, f2, f3⟩, _, _, f4⟩ := fewP_is hf
  have HR := Lib.hid (fun W => ref12_Right o a b W)
  have hv := h.vs
  have hbk := h.bs
  have hun := h.us
  obtain ⟨s0, t0, rfl⟩ := row_get h.cs
  obtain ⟨s1, t1, rfl⟩ := row_get h.vs
  obtain ⟨s2, t2, rfl⟩ := row_get h.bs
  obtain ⟨s3, t3, rfl⟩ := row_get h.us
  obtain ⟨W0, hW0⟩ : ∃ W0, W0 = (w.alloc (.cells #[.slice s0 p.consts.length t0, .slice s1 p.vars.length t1, .slice s2 p.blocks.length t2, .slice s3 p.units.length t3] 27)).alloc (.cells #[.int .i64 o, .int .i64 a, .int .i64 b] 40) := ⟨_, rfl⟩
  obtain ⟨k1, k2, k3, k4⟩ := boxed2 w [.slice s0 p.consts.length t0, .slice s1 p.vars.length t1, .slice s2 p.blocks.length t2, .slice s3 p.units.length t3] [.int .i64 o, .int .i64 a, .int .i64 b] 27 40 (W' := W0) (by rw [hW0]; exact Below.refl _ _)
  have HW0 := Lib.hid hW0
  clear hW0
  have K1 := Lib.hid k1
  have K2 := Lib.hid k2
  have z1 : w.heap.size < W0.heap.size := by omega
  clear k1 k2 h
  by_cases hu0 : u < 0
  · have hs := Lib.hid (oneP_u (p := p) (o := o) (a := a) (b := b) (show ¬ (0 ≤ u ∧ u < p.units.length) by omega))
    generalize p.units.length = n3 at *
    have q0 : (u < 0) = True := eq_true hu0
    clear hu0
    go_enter Tryz.func40, Tryz.ntmps40
    go_wp2_with fail
    go_ret
    exact ⟨by rw [hs.out]; rfl, by (repeat' (first | (with_reducible exact Below.refl _ _) | (with_reducible assumption) | (with_reducible refine below_drewN ?_ _) | (with_reducible refine Below.alloc ?_ ?_ _) | (with_reducible refine Below.drew ?_) | (with_reducible refine Below.setCell ?_ ?_ _) | go_size))⟩
  have q0 : (u < 0) = False := eq_false hu0
  by_cases hu1 : u < p.units.length
  case neg =>
    have hs := Lib.hid (oneP_u (p := p) (o := o) (a := a) (b := b) (show ¬ (0 ≤ u ∧ u < p.units.length) by omega))
    generalize p.units.length = n3 at *
    have q1 : ((n3 : Int) ≤ u) = True := eq_true (by omega)
    have q2 : (u < (n3 : Int)) = False := eq_false (by omega)
    clear hu0 hu1
    go_enter Tryz.func40, Tryz.ntmps40
    go_wp2_with fail
    go_ret
    exact ⟨by rw [hs.out]; rfl, by (repeat' (first | (with_reducible exact Below.refl _ _) | (with_reducible assumption) | (with_reducible refine below_drewN ?_ _) | (with_reducible refine Below.alloc ?_ ?_ _) | (with_reducible refine Below.drew ?_) | (with_reducible refine Below.setCell ?_ ?_ _) | go_size))⟩
  have HU := Lib.hid (show 0 ≤ u ∧ u < p.units.length by omega)
  have q1 : ((p.units.length : Int) ≤ u) = False := eq_false (by omega)
  have q2 : (u < (p.units.length : Int)) = True := eq_true (by omega)
  obtain ⟨i, rfl⟩ := Int.eq_ofNat_of_zero_le (show 0 ≤ u by omega)
  obtain ⟨x, hx⟩ := get_some (L := p.units) (n := i) (by omega)
  have hux : unAt p i = x := by unfold unAt; simp [List.getD, hx]
  have HE := Lib.hid (fun (hr : oRight o a b = false) => oneP_r HU.out hr)
  have HE2 := Lib.hid (fun (hr : oRight o a b = true) (ht : typedP o a b = false) => oneP_t HU.out hr ht)
  have HE3 := Lib.hid (fun (hr : oRight o a b = true) (ht : typedP o a b = true) (hn : thereP p x o a b = false) => oneP_n HU.out hr ht (by rw [hux]; exact hn))
  have HE4 := Lib.hid (fun (hr : oRight o a b = true) (ht : typedP o a b = true) (hn : thereP p x o a b = true) => oneP_ok HU.out hr ht (by rw [hux]; exact hn))
  cases hr : oRight o a b
  · have hs := Lib.hid (HE.out hr)
    rw [hr] at HR
    generalize p.units.length = n3 at *
    clear hr hu0 hu1
    go_enter Tryz.func40, Tryz.ntmps40
    go_wp2_with fail
    refine (HR.out _).mono ?_; rintro e w1 ⟨rfl, hb1⟩
    rw [← HW0.out] at hb1
    go_wp2_with fail
    go_ret
    exact ⟨by rw [hs.out]; rfl, k4.trans (hb1.mono k4.size)⟩
  have ho := (oRight_pos hr).1
  have ha := (oRight_pos hr).2.1
  have hbp := (oRight_pos hr).2.2.1
  have HE2 := Lib.hid (HE2.out hr)
  have HE3 := Lib.hid (HE3.out hr)
  have HE4 := Lib.hid (HE4.out hr)
  rw [hr] at HR
  have hxf := f4 x (List.mem_of_getElem? hx)
  clear hr HE hu0 hu1
  have HX := Lib.hid hx
  by_cases c9 : 8 ≤ o ∧ o ≤ 25
  · have hty := typedP_m (a := a) (b := b) c9
    have hA := fun W => ref07_Goes o a W
    have h4 : oA o = 4 := by
      obtain ⟨k, rfl⟩ := Int.eq_ofNat_of_zero_le (show 0 ≤ o by omega)
      exact (o_mid (k := k) (by omega)).1
    have r0 : (8 ≤ o) = True := eq_true c9.1
    have r1 : (o ≤ 25) = True := eq_true c9.2
    have v26 : (o == 26) = false := beq_eq_false_iff_ne.2 (by omega)
    have v1 : (o == 1) = false := beq_eq_false_iff_ne.2 (by omega)
    have v2 : (o == 2) = false := beq_eq_false_iff_ne.2 (by omega)
    have v3 : (o == 3) = false := beq_eq_false_iff_ne.2 (by omega)
    have v4 : (o == 4) = false := beq_eq_false_iff_ne.2 (by omega)
    have v5 : (o == 5) = false := beq_eq_false_iff_ne.2 (by omega)
    have v6 : (o == 6) = false := beq_eq_false_iff_ne.2 (by omega)
    have v7 : (o == 7) = false := beq_eq_false_iff_ne.2 (by omega)
    have v33 : (o == 33) = false := beq_eq_false_iff_ne.2 (by omega)
    have v35 : (o == 35) = false := beq_eq_false_iff_ne.2 (by omega)
    have v36 : (o == 36) = false := beq_eq_false_iff_ne.2 (by omega)
    have v37 : (o == 37) = false := beq_eq_false_iff_ne.2 (by omega)
    cases hg : aGoes o a
    · have hs := Lib.hid (HE2.out (hty.trans hg))
      rw [hg] at hA
      clear c9 h4 hty hg
      generalize p.consts.length = n0 at *
      generalize p.vars.length = n1 at *
      generalize p.blocks.length = n2 at *
      generalize p.units.length = n3 at *
      clear hx hux f4
      go_enter Tryz.func40, Tryz.ntmps40
      go_wp2_with fail
      refine (HR.out _).mono ?_; rintro e w1 ⟨rfl, hb1⟩
      rw [← HW0.out] at hb1
      have hb1w := k4.trans (hb1.mono k4.size)
      have y1 := Nat.lt_of_lt_of_le z1 hb1.size
      have y2 := Nat.lt_of_lt_of_le k3 hb1.size
      have e00 := (K1.out.keep z1 hb1) 0 _ rfl
      have e01 := (K1.out.keep z1 hb1) 1 _ rfl
      have e02 := (K1.out.keep z1 hb1) 2 _ rfl
      have e03 := (K1.out.keep z1 hb1) 3 _ rfl
      have e20 := (K2.out.keep k3 hb1) 0 _ rfl
      have e21 := (K2.out.keep k3 hb1) 1 _ rfl
      have e22 := (K2.out.keep k3 hb1) 2 _ rfl
      go_wp2_with fail
      refine (hA _).mono ?_; rintro e w' ⟨rfl, rfl⟩
      go_wp2_with fail
      go_ret
      exact ⟨by rw [hs.out]; rfl, hb1w⟩
    · have hs := Lib.hid (HE4.out (hty.trans hg) (thereP_n (by omega) (by omega) (by omega) (by omega) (by omega)))
      rw [hg] at hA
      clear c9 h4 hty hg
      generalize p.consts.length = n0 at *
      generalize p.vars.length = n1 at *
      generalize p.blocks.length = n2 at *
      generalize p.units.length = n3 at *
      clear hx hux f4
      go_enter Tryz.func40, Tryz.ntmps40
      go_wp2_with fail
      refine (HR.out _).mono ?_; rintro e w1 ⟨rfl, hb1⟩
      rw [← HW0.out] at hb1
      have hb1w := k4.trans (hb1.mono k4.size)
      have y1 := Nat.lt_of_lt_of_le z1 hb1.size
      have y2 := Nat.lt_of_lt_of_le k3 hb1.size
      have e00 := (K1.out.keep z1 hb1) 0 _ rfl
      have e01 := (K1.out.keep z1 hb1) 1 _ rfl
      have e02 := (K1.out.keep z1 hb1) 2 _ rfl
      have e03 := (K1.out.keep z1 hb1) 3 _ rfl
      have e20 := (K2.out.keep k3 hb1) 0 _ rfl
      have e21 := (K2.out.keep k3 hb1) 1 _ rfl
      have e22 := (K2.out.keep k3 hb1) 2 _ rfl
      go_wp2_with fail
      refine (hA _).mono ?_; rintro e w' ⟨rfl, rfl⟩
      go_wp2_with fail
      go_ret
      exact ⟨by rw [hs.out]; rfl, hb1w⟩
  by_cases c26 : o = 26
  · subst c26
    have hty : typedP 26 a b = (kRight a && kRight b) := rfl
    have hth : thereP p x 26 a b = true := thereP_n (by decide) (by decide) (by decide) (by decide) (by decide)
    by_cases g1 : a < 1
    · have r1 : (a < 1) = True := eq_true g1
      have hs := Lib.hid (HE2.out (by rw [hty, kRight_no (show ¬ (1 ≤ a ∧ a ≤ 6) by omega)]; rfl))
      clear c9 hty hth g1
      generalize p.consts.length = n0 at *
      generalize p.vars.length = n1 at *
      generalize p.blocks.length = n2 at *
      generalize p.units.length = n3 at *
      clear hx hux f4
      go_enter Tryz.func40, Tryz.ntmps40
      go_wp2_with fail
      refine (HR.out _).mono ?_; rintro e w1 ⟨rfl, hb1⟩
      rw [← HW0.out] at hb1
      have hb1w := k4.trans (hb1.mono k4.size)
      have y1 := Nat.lt_of_lt_of_le z1 hb1.size
      have y2 := Nat.lt_of_lt_of_le k3 hb1.size
      have e00 := (K1.out.keep z1 hb1) 0 _ rfl
      have e01 := (K1.out.keep z1 hb1) 1 _ rfl
      have e02 := (K1.out.keep z1 hb1) 2 _ rfl
      have e03 := (K1.out.keep z1 hb1) 3 _ rfl
      have e20 := (K2.out.keep k3 hb1) 0 _ rfl
      have e21 := (K2.out.keep k3 hb1) 1 _ rfl
      have e22 := (K2.out.keep k3 hb1) 2 _ rfl
      go_wp2_with fail
      go_ret
      exact ⟨by rw [hs.out]; rfl, hb1w⟩
    have r1 : (a < 1) = False := eq_false g1
    by_cases g2 : 6 < a
    · have r2 : (6 < a) = True := eq_true g2
      have hs := Lib.hid (HE2.out (by rw [hty, kRight_no (show ¬ (1 ≤ a ∧ a ≤ 6) by omega)]; rfl))
      clear c9 hty hth g1 g2
      generalize p.consts.length = n0 at *
      generalize p.vars.length = n1 at *
      generalize p.blocks.length = n2 at *
      generalize p.units.length = n3 at *
      clear hx hux f4
      go_enter Tryz.func40, Tryz.ntmps40
      go_wp2_with fail
      refine (HR.out _).mono ?_; rintro e w1 ⟨rfl, hb1⟩
      rw [← HW0.out] at hb1
      have hb1w := k4.trans (hb1.mono k4.size)
      have y1 := Nat.lt_of_lt_of_le z1 hb1.size
      have y2 := Nat.lt_of_lt_of_le k3 hb1.size
      have e00 := (K1.out.keep z1 hb1) 0 _ rfl
      have e01 := (K1.out.keep z1 hb1) 1 _ rfl
      have e02 := (K1.out.keep z1 hb1) 2 _ rfl
      have e03 := (K1.out.keep z1 hb1) 3 _ rfl
      have e20 := (K2.out.keep k3 hb1) 0 _ rfl
      have e21 := (K2.out.keep k3 hb1) 1 _ rfl
      have e22 := (K2.out.keep k3 hb1) 2 _ rfl
      go_wp2_with fail
      go_ret
      exact ⟨by rw [hs.out]; rfl, hb1w⟩
    have r2 : (6 < a) = False := eq_false g2
    by_cases g3 : b < 1
    · have r3 : (b < 1) = True := eq_true g3
      have hs := Lib.hid (HE2.out (by rw [hty, kRight_no (show ¬ (1 ≤ b ∧ b ≤ 6) by omega), Bool.and_false]))
      clear c9 hty hth g1 g2 g3
      generalize p.consts.length = n0 at *
      generalize p.vars.length = n1 at *
      generalize p.blocks.length = n2 at *
      generalize p.units.length = n3 at *
      clear hx hux f4
      go_enter Tryz.func40, Tryz.ntmps40
      go_wp2_with fail
      refine (HR.out _).mono ?_; rintro e w1 ⟨rfl, hb1⟩
      rw [← HW0.out] at hb1
      have hb1w := k4.trans (hb1.mono k4.size)
      have y1 := Nat.lt_of_lt_of_le z1 hb1.size
      have y2 := Nat.lt_of_lt_of_le k3 hb1.size
      have e00 := (K1.out.keep z1 hb1) 0 _ rfl
      have e01 := (K1.out.keep z1 hb1) 1 _ rfl
      have e02 := (K1.out.keep z1 hb1) 2 _ rfl
      have e03 := (K1.out.keep z1 hb1) 3 _ rfl
      have e20 := (K2.out.keep k3 hb1) 0 _ rfl
      have e21 := (K2.out.keep k3 hb1) 1 _ rfl
      have e22 := (K2.out.keep k3 hb1) 2 _ rfl
      go_wp2_with fail
      go_ret
      exact ⟨by rw [hs.out]; rfl, hb1w⟩
    have r3 : (b < 1) = False := eq_false g3
    by_cases g4 : 6 < b
    · have r4 : (6 < b) = True := eq_true g4
      have hs := Lib.hid (HE2.out (by rw [hty, kRight_no (show ¬ (1 ≤ b ∧ b ≤ 6) by omega), Bool.and_false]))
      clear c9 hty hth g1 g2 g3 g4
      generalize p.consts.length = n0 at *
      generalize p.vars.length = n1 at *
      generalize p.blocks.length = n2 at *
      generalize p.units.length = n3 at *
      clear hx hux f4
      go_enter Tryz.func40, Tryz.ntmps40
      go_wp2_with fail
      refine (HR.out _).mono ?_; rintro e w1 ⟨rfl, hb1⟩
      rw [← HW0.out] at hb1
      have hb1w := k4.trans (hb1.mono k4.size)
      have y1 := Nat.lt_of_lt_of_le z1 hb1.size
      have y2 := Nat.lt_of_lt_of_le k3 hb1.size
      have e00 := (K1.out.keep z1 hb1) 0 _ rfl
      have e01 := (K1.out.keep z1 hb1) 1 _ rfl
      have e02 := (K1.out.keep z1 hb1) 2 _ rfl
      have e03 := (K1.out.keep z1 hb1) 3 _ rfl
      have e20 := (K2.out.keep k3 hb1) 0 _ rfl
      have e21 := (K2.out.keep k3 hb1) 1 _ rfl
      have e22 := (K2.out.keep k3 hb1) 2 _ rfl
      go_wp2_with fail
      go_ret
      exact ⟨by rw [hs.out]; rfl, hb1w⟩
    have r4 : (6 < b) = False := eq_false g4
    have hs := Lib.hid (HE4.out (by rw [hty, kRight_yes (show 1 ≤ a ∧ a ≤ 6 by omega), kRight_yes (show 1 ≤ b ∧ b ≤ 6 by omega)]; rfl) hth)
    clear c9 hty hth g1 g2 g3 g4
    generalize p.consts.length = n0 at *
    generalize p.vars.length = n1 at *
    generalize p.blocks.length = n2 at *
    generalize p.units.length = n3 at *
    clear hx hux f4
    go_enter Tryz.func40, Tryz.ntmps40
    go_wp2_with fail
    refine (HR.out _).mono ?_; rintro e w1 ⟨rfl, hb1⟩
    rw [← HW0.out] at hb1
    have hb1w := k4.trans (hb1.mono k4.size)
    have y1 := Nat.lt_of_lt_of_le z1 hb1.size
    have y2 := Nat.lt_of_lt_of_le k3 hb1.size
    have e00 := (K1.out.keep z1 hb1) 0 _ rfl
    have e01 := (K1.out.keep z1 hb1) 1 _ rfl
    have e02 := (K1.out.keep z1 hb1) 2 _ rfl
    have e03 := (K1.out.keep z1 hb1) 3 _ rfl
    have e20 := (K2.out.keep k3 hb1) 0 _ rfl
    have e21 := (K2.out.keep k3 hb1) 1 _ rfl
    have e22 := (K2.out.keep k3 hb1) 2 _ rfl
    go_wp2_with fail
    go_ret
    exact ⟨by rw [hs.out]; rfl, hb1w⟩
  by_cases cn : o = 0 ∨ o = 27 ∨ o = 28 ∨ o = 29 ∨ o = 30 ∨ o = 31 ∨ o = 32 ∨ o = 34
  · rcases cn with rfl | rfl | rfl | rfl | rfl | rfl | rfl | rfl
    all_goals
      have hs := Lib.hid (HE4.out (typedP_n (by decide) (by decide)) (thereP_n (by decide) (by decide) (by decide) (by decide) (by decide)))
      clear c9 c26
      generalize p.consts.length = n0 at *
      generalize p.vars.length = n1 at *
      generalize p.blocks.length = n2 at *
      generalize p.units.length = n3 at *
      clear hx hux f4
      go_enter Tryz.func40, Tryz.ntmps40
      go_wp2_with fail
      refine (HR.out _).mono ?_; rintro e w1 ⟨rfl, hb1⟩
      rw [← HW0.out] at hb1
      have hb1w := k4.trans (hb1.mono k4.size)
      have y1 := Nat.lt_of_lt_of_le z1 hb1.size
      have y2 := Nat.lt_of_lt_of_le k3 hb1.size
      have e00 := (K1.out.keep z1 hb1) 0 _ rfl
      have e01 := (K1.out.keep z1 hb1) 1 _ rfl
      have e02 := (K1.out.keep z1 hb1) 2 _ rfl
      have e03 := (K1.out.keep z1 hb1) 3 _ rfl
      have e20 := (K2.out.keep k3 hb1) 0 _ rfl
      have e21 := (K2.out.keep k3 hb1) 1 _ rfl
      have e22 := (K2.out.keep k3 hb1) 2 _ rfl
      go_wp2_with fail
      go_ret
      exact ⟨by rw [hs.out]; rfl, hb1w⟩
  by_cases d1 : o = 1
  · subst d1
    have hth := thereP_1 (p := p) (x := x) (a := a) (b := b) (show oA 1 = 1 by decide)
    by_cases g : a < p.consts.length
    all_goals
      have hs := Lib.hid (by first | exact HE4.out (typedP_n (by decide) (by decide)) (hth.trans (decide_eq_true g)) | exact HE3.out (typedP_n (by decide) (by decide)) (hth.trans (decide_eq_false g)))
      first | have qg := eq_false g | have qg := eq_true g
      clear c9 c26 cn hth g
      generalize p.consts.length = n0 at *
      generalize p.vars.length = n1 at *
      generalize p.blocks.length = n2 at *
      generalize p.units.length = n3 at *
      clear hx hux f4
      go_enter Tryz.func40, Tryz.ntmps40
      go_wp2_with fail
      refine (HR.out _).mono ?_; rintro e w1 ⟨rfl, hb1⟩
      rw [← HW0.out] at hb1
      have hb1w := k4.trans (hb1.mono k4.size)
      have y1 := Nat.lt_of_lt_of_le z1 hb1.size
      have y2 := Nat.lt_of_lt_of_le k3 hb1.size
      have e00 := (K1.out.keep z1 hb1) 0 _ rfl
      have e01 := (K1.out.keep z1 hb1) 1 _ rfl
      have e02 := (K1.out.keep z1 hb1) 2 _ rfl
      have e03 := (K1.out.keep z1 hb1) 3 _ rfl
      have e20 := (K2.out.keep k3 hb1) 0 _ rfl
      have e21 := (K2.out.keep k3 hb1) 1 _ rfl
      have e22 := (K2.out.keep k3 hb1) 2 _ rfl
      go_wp2_with fail
      go_ret
      exact ⟨by rw [hs.out]; rfl, hb1w⟩
  by_cases d33 : o = 33
  · subst d33
    have hth := thereP_7 (p := p) (x := x) (a := a) (b := b) (show oA 33 = 7 by decide)
    by_cases g1 : 0 < a
    · have r1 : (0 < a) = True := eq_true g1
      by_cases g : a < p.units.length
      all_goals
        have hs := Lib.hid (by first | exact HE4.out (typedP_n (by decide) (by decide)) (hth.trans (decide_eq_true ⟨g1, g⟩)) | exact HE3.out (typedP_n (by decide) (by decide)) (hth.trans (decide_eq_false (fun q => g q.2))))
        first | have qg := eq_false g | have qg := eq_true g
        clear c9 c26 cn hth g g1 d1
        generalize p.consts.length = n0 at *
        generalize p.vars.length = n1 at *
        generalize p.blocks.length = n2 at *
        generalize p.units.length = n3 at *
        clear hx hux f4
        go_enter Tryz.func40, Tryz.ntmps40
        go_wp2_with fail
        refine (HR.out _).mono ?_; rintro e w1 ⟨rfl, hb1⟩
        rw [← HW0.out] at hb1
        have hb1w := k4.trans (hb1.mono k4.size)
        have y1 := Nat.lt_of_lt_of_le z1 hb1.size
        have y2 := Nat.lt_of_lt_of_le k3 hb1.size
        have e00 := (K1.out.keep z1 hb1) 0 _ rfl
        have e01 := (K1.out.keep z1 hb1) 1 _ rfl
        have e02 := (K1.out.keep z1 hb1) 2 _ rfl
        have e03 := (K1.out.keep z1 hb1) 3 _ rfl
        have e20 := (K2.out.keep k3 hb1) 0 _ rfl
        have e21 := (K2.out.keep k3 hb1) 1 _ rfl
        have e22 := (K2.out.keep k3 hb1) 2 _ rfl
        go_wp2_with fail
        go_ret
        exact ⟨by rw [hs.out]; rfl, hb1w⟩
    · have r1 : (0 < a) = False := eq_false g1
      have hs := Lib.hid (HE3.out (typedP_n (by decide) (by decide)) (hth.trans (decide_eq_false (fun q => g1 q.1))))
      clear c9 c26 cn hth g1 d1
      generalize p.consts.length = n0 at *
      generalize p.vars.length = n1 at *
      generalize p.blocks.length = n2 at *
      generalize p.units.length = n3 at *
      clear hx hux f4
      go_enter Tryz.func40, Tryz.ntmps40
      go_wp2_with fail
      refine (HR.out _).mono ?_; rintro e w1 ⟨rfl, hb1⟩
      rw [← HW0.out] at hb1
      have hb1w := k4.trans (hb1.mono k4.size)
      have y1 := Nat.lt_of_lt_of_le z1 hb1.size
      have y2 := Nat.lt_of_lt_of_le k3 hb1.size
      have e00 := (K1.out.keep z1 hb1) 0 _ rfl
      have e01 := (K1.out.keep z1 hb1) 1 _ rfl
      have e02 := (K1.out.keep z1 hb1) 2 _ rfl
      have e03 := (K1.out.keep z1 hb1) 3 _ rfl
      have e20 := (K2.out.keep k3 hb1) 0 _ rfl
      have e21 := (K2.out.keep k3 hb1) 1 _ rfl
      have e22 := (K2.out.keep k3 hb1) 2 _ rfl
      go_wp2_with fail
      go_ret
      exact ⟨by rw [hs.out]; rfl, hb1w⟩
  by_cases dv : o = 2 ∨ o = 3 ∨ o = 6 ∨ o = 7
  · have hth : thereP p x o a b = varP p o a := thereP_2 (by rcases dv with rfl | rfl | rfl | rfl <;> decide)
    have hty : typedP o a b = true := by rcases dv with rfl | rfl | rfl | rfl <;> exact typedP_n (by decide) (by decide)
    have hvp : varP p o a = decide (a < p.vars.length ∧ ((2 ≤ nAt p a) ↔ (o = 6 ∨ o = 7))) := rfl
    by_cases g1 : a < p.vars.length
    · obtain ⟨k, rfl⟩ := Int.eq_ofNat_of_zero_le ha
      obtain ⟨y, hy⟩ := get_some (L := p.vars) (n := k) (by omega)
      have hn : nAt p k = y.n := by unfold nAt; simp [List.getD, hy]
      rw [hn] at hvp
      obtain ⟨bb, off, rfl, hbw, hc⟩ := var_at hv (k := k) (lt_of_get hy)
      obtain ⟨_, _, cc, _, _, _⟩ := hc k y hy
      have r2 : ((k : Int) < (p.vars.length : Int)) = True := eq_true (by omega)
      generalize y.n = n at *
      by_cases g2 : 2 ≤ n
      · have r3 : (2 ≤ n) = True := eq_true g2
        have r4 : (n < 2) = False := eq_false (by omega)
        rcases dv with rfl | rfl | rfl | rfl
        all_goals
          have hs := Lib.hid (by first | exact HE4.out hty (hth.trans (hvp.trans (decide_eq_true ⟨g1, iff_of_true g2 (by omega)⟩))) | exact HE3.out hty (hth.trans (hvp.trans (decide_eq_false (fun q => absurd (q.2.1 g2) (by omega))))))
          clear c9 c26 cn d1 d33 hth hty hvp hn hc hy g1 g2 hv
          generalize p.consts.length = n0 at *
          generalize p.vars.length = n1 at *
          generalize p.blocks.length = n2 at *
          generalize p.units.length = n3 at *
          clear hx hux f4
          go_enter Tryz.func40, Tryz.ntmps40
          go_wp2_with fail
          refine (HR.out _).mono ?_; rintro e w1 ⟨rfl, hb1⟩
          rw [← HW0.out] at hb1
          have hb1w := k4.trans (hb1.mono k4.size)
          have y1 := Nat.lt_of_lt_of_le z1 hb1.size
          have y2 := Nat.lt_of_lt_of_le k3 hb1.size
          have e00 := (K1.out.keep z1 hb1) 0 _ rfl
          have e01 := (K1.out.keep z1 hb1) 1 _ rfl
          have e02 := (K1.out.keep z1 hb1) 2 _ rfl
          have e03 := (K1.out.keep z1 hb1) 3 _ rfl
          have e20 := (K2.out.keep k3 hb1) 0 _ rfl
          have e21 := (K2.out.keep k3 hb1) 1 _ rfl
          have e22 := (K2.out.keep k3 hb1) 2 _ rfl
          have cc1 := (hb1w.cell (p := ⟨bb, off + k * 5 + 2, none⟩) hbw).trans cc
          go_wp2_with fail
          go_ret
          exact ⟨by rw [hs.out]; rfl, hb1w⟩
      · have r3 : (2 ≤ n) = False := eq_false g2
        have r4 : (n < 2) = True := eq_true (by omega)
        rcases dv with rfl | rfl | rfl | rfl
        all_goals
          have hs := Lib.hid (by first | exact HE4.out hty (hth.trans (hvp.trans (decide_eq_true ⟨g1, iff_of_false g2 (by omega)⟩))) | exact HE3.out hty (hth.trans (hvp.trans (decide_eq_false (fun q => absurd (q.2.2 (by omega)) g2)))))
          clear c9 c26 cn d1 d33 hth hty hvp hn hc hy g1 g2 hv
          generalize p.consts.length = n0 at *
          generalize p.vars.length = n1 at *
          generalize p.blocks.length = n2 at *
          generalize p.units.length = n3 at *
          clear hx hux f4
          go_enter Tryz.func40, Tryz.ntmps40
          go_wp2_with fail
          refine (HR.out _).mono ?_; rintro e w1 ⟨rfl, hb1⟩
          rw [← HW0.out] at hb1
          have hb1w := k4.trans (hb1.mono k4.size)
          have y1 := Nat.lt_of_lt_of_le z1 hb1.size
          have y2 := Nat.lt_of_lt_of_le k3 hb1.size
          have e00 := (K1.out.keep z1 hb1) 0 _ rfl
          have e01 := (K1.out.keep z1 hb1) 1 _ rfl
          have e02 := (K1.out.keep z1 hb1) 2 _ rfl
          have e03 := (K1.out.keep z1 hb1) 3 _ rfl
          have e20 := (K2.out.keep k3 hb1) 0 _ rfl
          have e21 := (K2.out.keep k3 hb1) 1 _ rfl
          have e22 := (K2.out.keep k3 hb1) 2 _ rfl
          have cc1 := (hb1w.cell (p := ⟨bb, off + k * 5 + 2, none⟩) hbw).trans cc
          go_wp2_with fail
          go_ret
          exact ⟨by rw [hs.out]; rfl, hb1w⟩
    · have r2 : (a < (p.vars.length : Int)) = False := eq_false g1
      rcases dv with rfl | rfl | rfl | rfl
      all_goals
        have hs := Lib.hid (HE3.out hty (hth.trans (hvp.trans (decide_eq_false (fun q => g1 q.1)))))
        clear c9 c26 cn d1 d33 hth hty hvp g1 hv
        generalize p.consts.length = n0 at *
        generalize p.vars.length = n1 at *
        generalize p.blocks.length = n2 at *
        generalize p.units.length = n3 at *
        clear hx hux f4
        go_enter Tryz.func40, Tryz.ntmps40
        go_wp2_with fail
        refine (HR.out _).mono ?_; rintro e w1 ⟨rfl, hb1⟩
        rw [← HW0.out] at hb1
        have hb1w := k4.trans (hb1.mono k4.size)
        have y1 := Nat.lt_of_lt_of_le z1 hb1.size
        have y2 := Nat.lt_of_lt_of_le k3 hb1.size
        have e00 := (K1.out.keep z1 hb1) 0 _ rfl
        have e01 := (K1.out.keep z1 hb1) 1 _ rfl
        have e02 := (K1.out.keep z1 hb1) 2 _ rfl
        have e03 := (K1.out.keep z1 hb1) 3 _ rfl
        have e20 := (K2.out.keep k3 hb1) 0 _ rfl
        have e21 := (K2.out.keep k3 hb1) 1 _ rfl
        have e22 := (K2.out.keep k3 hb1) 2 _ rfl
        go_wp2_with fail
        go_ret
        exact ⟨by rw [hs.out]; rfl, hb1w⟩
  by_cases ds : o = 4 ∨ o = 5
  · have hth : thereP p x o a b = decide (a < slotsN x) := thereP_3 (by rcases ds with rfl | rfl <;> decide)
    have hty : typedP o a b = true := by rcases ds with rfl | rfl <;> exact typedP_n (by decide) (by decide)
    obtain ⟨b3, off3, rfl, hbw3, hc3⟩ := unit_at hun (k := i) (lt_of_get HX.out)
    obtain ⟨u1, u3, u4, c0, c1, c2, c3, c4, hU⟩ := hc3 i x HX.out
    have HS := Lib.hid (fun W (hb : Below w.heap.size w W) => ref15_Slots u1 u3 u4 x W (hU.below hb) hxf)
    have hsl := slotsL_len x
    generalize slotsN x = sn at *
    have hslN := Lib.hid hsl
    have hsnb : sn ≤ 2000 := by rw [← hsl]; obtain ⟨_, j1, j2, _⟩ := fewU_is hxf; unfold slotsL; simp; split <;> simp <;> omega
    clear hsl hU hc3 hun
    rcases ds with rfl | rfl
    all_goals
      by_cases g : a < sn
      all_goals
        have hs := Lib.hid (by first | exact HE4.out hty (hth.trans (decide_eq_true g)) | exact HE3.out hty (hth.trans (decide_eq_false g)))
        first | have qg := eq_false g | have qg := eq_true g
        clear c9 c26 cn d1 d33 dv hth hty g
        generalize p.consts.length = n0 at *
        generalize p.vars.length = n1 at *
        generalize p.blocks.length = n2 at *
        generalize p.units.length = n3 at *
        clear hx hux f4
        go_enter Tryz.func40, Tryz.ntmps40
        go_wp2_with fail
        refine (HR.out _).mono ?_; rintro e w1 ⟨rfl, hb1⟩
        rw [← HW0.out] at hb1
        have hb1w := k4.trans (hb1.mono k4.size)
        have y1 := Nat.lt_of_lt_of_le z1 hb1.size
        have y2 := Nat.lt_of_lt_of_le k3 hb1.size
        have e00 := (K1.out.keep z1 hb1) 0 _ rfl
        have e01 := (K1.out.keep z1 hb1) 1 _ rfl
        have e02 := (K1.out.keep z1 hb1) 2 _ rfl
        have e03 := (K1.out.keep z1 hb1) 3 _ rfl
        have e20 := (K2.out.keep k3 hb1) 0 _ rfl
        have e21 := (K2.out.keep k3 hb1) 1 _ rfl
        have e22 := (K2.out.keep k3 hb1) 2 _ rfl
        have z3 : b3 < w1.heap.size := Nat.lt_of_lt_of_le hbw3 hb1w.size
        have C0 := (hb1w.cell (p := ⟨b3, off3 + i * 5, none⟩) hbw3).trans c0
        have C1 := (hb1w.cell (p := ⟨b3, off3 + i * 5 + 1, none⟩) hbw3).trans c1
        have C2 := (hb1w.cell (p := ⟨b3, off3 + i * 5 + 2, none⟩) hbw3).trans c2
        have C3 := (hb1w.cell (p := ⟨b3, off3 + i * 5 + 3, none⟩) hbw3).trans c3
        have C4 := (hb1w.cell (p := ⟨b3, off3 + i * 5 + 4, none⟩) hbw3).trans c4
        go_wp2_with fail
        refine wp_region_held_drew (S := (fun w' => Below w1.heap.size w1 w')) (by kernel_rfl) ?_ (fun hHeld => ?_)
        · (try dsimp only); first | assumption | exact Below.alloc hHeld hHeld.size _ | exact (Below.refl _ _).drew | exact Below.drew (Below.refl _ _) | exact Below_drewN _ _ _ | exact Below.refl _ _ | (trace_state; fail)
        refine wpAnyH_take (i := 0) (oi := { dst := some 96, op := Op.fieldAddr 40 (Operand.tmp 5) 1, type := 0, pos := _, after := #[], guard := none }) (v := ?_) rfl (by kernel_rfl) (by kernel_rfl) (by kernel_rfl) (fun _ _ _ h => h) (Or.inl ⟨by rfl, ?_⟩) (by assumption) ?_
        rotate_left
        · intro wt hSw; (try dsimp only at hSw); have e03 := cellB hSw e03 y1; have e21 := cellB hSw e21 y2; have C0 := cellB hSw C0 z3; have C1 := cellB hSw C1 z3; have C2 := cellB hSw C2 z3; have C3 := cellB hSw C3 z3; have C4 := cellB hSw C4 z3; first | (go_simp; done) | (go_simp; with_reducible rfl) | (trace_state; fail)
        try simp only [Act.put, List.setIfInBounds_toArray, List.set_cons_zero, List.set_cons_succ]
        refine wpAnyH_take (i := 1) (oi := { dst := some 97, op := Op.load 3 (Operand.tmp 96), type := 3, pos := _, after := #[{ on := 0, ground := Ground.data }], guard := none }) (v := ?_) rfl (by kernel_rfl) (by kernel_rfl) (by kernel_rfl) (fun _ _ _ h => h) (Or.inl ⟨by rfl, ?_⟩) (by assumption) ?_
        rotate_left
        · intro wt hSw; (try dsimp only at hSw); have e03 := cellB hSw e03 y1; have e21 := cellB hSw e21 y2; have C0 := cellB hSw C0 z3; have C1 := cellB hSw C1 z3; have C2 := cellB hSw C2 z3; have C3 := cellB hSw C3 z3; have C4 := cellB hSw C4 z3; first | (go_simp; done) | (go_simp; with_reducible rfl) | (trace_state; fail)
        try simp only [Act.put, List.setIfInBounds_toArray, List.set_cons_zero, List.set_cons_succ]
        refine wpAnyH_take (i := 2) (oi := { dst := some 98, op := Op.fieldAddr 27 (Operand.tmp 3) 3, type := 0, pos := _, after := #[], guard := none }) (v := ?_) rfl (by kernel_rfl) (by kernel_rfl) (by kernel_rfl) (fun _ _ _ h => h) (Or.inl ⟨by rfl, ?_⟩) (by assumption) ?_
        rotate_left
        · intro wt hSw; (try dsimp only at hSw); have e03 := cellB hSw e03 y1; have e21 := cellB hSw e21 y2; have C0 := cellB hSw C0 z3; have C1 := cellB hSw C1 z3; have C2 := cellB hSw C2 z3; have C3 := cellB hSw C3 z3; have C4 := cellB hSw C4 z3; first | (go_simp; done) | (go_simp; with_reducible rfl) | (trace_state; fail)
        try simp only [Act.put, List.setIfInBounds_toArray, List.set_cons_zero, List.set_cons_succ]
        refine wpAnyH_take (i := 3) (oi := { dst := some 99, op := Op.load 25 (Operand.tmp 98), type := 25, pos := _, after := #[{ on := 2, ground := Ground.data }], guard := none }) (v := ?_) rfl (by kernel_rfl) (by kernel_rfl) (by kernel_rfl) (fun _ _ _ h => h) (Or.inl ⟨by rfl, ?_⟩) (by assumption) ?_
        rotate_left
        · intro wt hSw; (try dsimp only at hSw); have e03 := cellB hSw e03 y1; have e21 := cellB hSw e21 y2; have C0 := cellB hSw C0 z3; have C1 := cellB hSw C1 z3; have C2 := cellB hSw C2 z3; have C3 := cellB hSw C3 z3; have C4 := cellB hSw C4 z3; first | (go_simp; done) | (go_simp; with_reducible rfl) | (trace_state; fail)
        try simp only [Act.put, List.setIfInBounds_toArray, List.set_cons_zero, List.set_cons_succ]
        refine wpAnyH_take (i := 4) (oi := { dst := some 100, op := Op.move (Operand.tmp 1), type := 3, pos := _, after := #[], guard := none }) (v := ?_) rfl (by kernel_rfl) (by kernel_rfl) (by kernel_rfl) (fun _ _ _ h => h) (Or.inl ⟨by rfl, ?_⟩) (by assumption) ?_
        rotate_left
        · intro wt hSw; (try dsimp only at hSw); have e03 := cellB hSw e03 y1; have e21 := cellB hSw e21 y2; have C0 := cellB hSw C0 z3; have C1 := cellB hSw C1 z3; have C2 := cellB hSw C2 z3; have C3 := cellB hSw C3 z3; have C4 := cellB hSw C4 z3; first | (go_simp; done) | (go_simp; with_reducible rfl) | (trace_state; fail)
        try simp only [Act.put, List.setIfInBounds_toArray, List.set_cons_zero, List.set_cons_succ]
        refine wpAnyH_take (i := 5) (oi := { dst := some 101, op := Op.indexAddr 25 (Operand.tmp 99) (Operand.tmp 100), type := 0, pos := _, after := #[{ on := 3, ground := Ground.data }, { on := 4, ground := Ground.data }], guard := none }) (v := ?_) rfl (by kernel_rfl) (by kernel_rfl) (by kernel_rfl) (fun _ _ _ h => h) (Or.inl ⟨by rfl, ?_⟩) (by assumption) ?_
        rotate_left
        · intro wt hSw; (try dsimp only at hSw); have e03 := cellB hSw e03 y1; have e21 := cellB hSw e21 y2; have C0 := cellB hSw C0 z3; have C1 := cellB hSw C1 z3; have C2 := cellB hSw C2 z3; have C3 := cellB hSw C3 z3; have C4 := cellB hSw C4 z3; first | (go_simp; done) | (go_simp; with_reducible rfl) | (trace_state; fail)
        try simp only [Act.put, List.setIfInBounds_toArray, List.set_cons_zero, List.set_cons_succ]
        refine wpAnyH_take (i := 6) (oi := { dst := some 102, op := Op.load 38 (Operand.tmp 101), type := 38, pos := _, after := #[{ on := 5, ground := Ground.data }], guard := none }) (v := ?_) rfl (by kernel_rfl) (by kernel_rfl) (by kernel_rfl) (fun _ _ _ h => h) (Or.inl ⟨by rfl, ?_⟩) (by assumption) ?_
        rotate_left
        · intro wt hSw; (try dsimp only at hSw); have e03 := cellB hSw e03 y1; have e21 := cellB hSw e21 y2; have C0 := cellB hSw C0 z3; have C1 := cellB hSw C1 z3; have C2 := cellB hSw C2 z3; have C3 := cellB hSw C3 z3; have C4 := cellB hSw C4 z3; first | (go_simp; done) | (go_simp; with_reducible rfl) | (trace_state; fail)
        try simp only [Act.put, List.setIfInBounds_toArray, List.set_cons_zero, List.set_cons_succ]
        refine wpAnyH_ready (rs := [7]) (by kernel_rfl) (by simp) ?_
        refine AllReadyH.cons (o := { dst := some 103, op := Op.call { callee := Callee.value (Operand.func 63), args := #[Operand.tmp 102], argTypes := #[38] }, type := 35, pos := _, after := #[{ on := 6, ground := Ground.data }], guard := none }) rfl (fun K hK => ?_) AllReadyH.nil
        go_simp
        refine (HS.out _ (hb1w.trans (hHeld.mono hb1w.size))).mono ?_; rintro e w2 ⟨vs, rfl, hvs, hb2⟩; obtain ⟨ss, ts, rfl⟩ := row_get hvs; rw [hslN.out]; have hHeld := hHeld.trans (hb2.mono hHeld.size); clear hb2 hvs
        go_wp2_with fail
        refine hK.out _ _ ?_ (fun hHeld => ?_)
        · (try dsimp only); first | assumption | exact Below.alloc hHeld hHeld.size _ | exact (Below.refl _ _).drew | exact Below.drew (Below.refl _ _) | exact Below_drewN _ _ _ | exact Below.refl _ _ | (trace_state; fail)
        clear hK K
        try simp only [Act.put, List.setIfInBounds_toArray, List.set_cons_zero, List.set_cons_succ]
        refine wpAnyH_take (i := 8) (oi := { dst := some 104, op := Op.call { callee := Callee.builtin Builtin.len, args := #[Operand.tmp 103], argTypes := #[35] }, type := 3, pos := _, after := #[{ on := 7, ground := Ground.data }], guard := none }) (v := ?_) rfl (by kernel_rfl) (by kernel_rfl) (by kernel_rfl) (fun _ _ _ h => h) (Or.inl ⟨by rfl, ?_⟩) (by assumption) ?_
        rotate_left
        · intro wt hSw; (try dsimp only at hSw); have e03 := cellB hSw e03 y1; have e21 := cellB hSw e21 y2; have C0 := cellB hSw C0 z3; have C1 := cellB hSw C1 z3; have C2 := cellB hSw C2 z3; have C3 := cellB hSw C3 z3; have C4 := cellB hSw C4 z3; first | (go_simp; done) | (go_simp; with_reducible rfl) | (trace_state; fail)
        try simp only [Act.put, List.setIfInBounds_toArray, List.set_cons_zero, List.set_cons_succ]
        refine wpAnyH_take (i := 9) (oi := { dst := some 105, op := Op.binOp BinOp.lss 3 (Operand.tmp 97) (Operand.tmp 104) 3, type := 4, pos := _, after := #[{ on := 1, ground := Ground.data }, { on := 8, ground := Ground.data }], guard := none }) (v := ?_) rfl (by kernel_rfl) (by kernel_rfl) (by kernel_rfl) (fun _ _ _ h => h) (Or.inl ⟨by rfl, ?_⟩) (by assumption) ?_
        rotate_left
        · intro wt hSw; (try dsimp only at hSw); have e03 := cellB hSw e03 y1; have e21 := cellB hSw e21 y2; have C0 := cellB hSw C0 z3; have C1 := cellB hSw C1 z3; have C2 := cellB hSw C2 z3; have C3 := cellB hSw C3 z3; have C4 := cellB hSw C4 z3; first | (go_simp; done) | (go_simp; with_reducible rfl) | (trace_state; fail)
        try simp only [Act.put, List.setIfInBounds_toArray, List.set_cons_zero, List.set_cons_succ]
        refine wpAnyH_take (i := 10) (oi := { dst := some 7, op := Op.assign (Operand.tmp 105), type := 4, pos := _, after := #[{ on := 9, ground := Ground.data }, { on := 7, ground := Ground.chain }, { on := 0, ground := Ground.phase }, { on := 1, ground := Ground.phase }, { on := 2, ground := Ground.phase }, { on := 3, ground := Ground.phase }, { on := 4, ground := Ground.phase }, { on := 5, ground := Ground.phase }, { on := 6, ground := Ground.phase }, { on := 7, ground := Ground.phase }, { on := 8, ground := Ground.phase }, { on := 9, ground := Ground.phase }], guard := none }) (v := ?_) rfl (by kernel_rfl) (by kernel_rfl) (by kernel_rfl) (fun _ _ _ h => h) (Or.inl ⟨by rfl, ?_⟩) (by assumption) ?_
        rotate_left
        · intro wt hSw; (try dsimp only at hSw); have e03 := cellB hSw e03 y1; have e21 := cellB hSw e21 y2; have C0 := cellB hSw C0 z3; have C1 := cellB hSw C1 z3; have C2 := cellB hSw C2 z3; have C3 := cellB hSw C3 z3; have C4 := cellB hSw C4 z3; first | (go_simp; done) | (go_simp; with_reducible rfl) | (trace_state; fail)
        try simp only [Act.put, List.setIfInBounds_toArray, List.set_cons_zero, List.set_cons_succ]
        refine wpAnyH_done (by kernel_rfl) ?_ _
        go_wp2_with fail
        go_ret
        exact ⟨by rw [hs.out]; rfl, hb1w.trans (hHeld.mono hb1w.size)⟩
  have db : o = 35 ∨ o = 36 ∨ o = 37 := by omega
  have hth : thereP p x o a b = decide (a < p.blocks.length ∧ (oB o = 9 → b < reachN o (kindAt p a))) := thereP_8 (by rcases db with rfl | rfl | rfl <;> decide)
  have hty : typedP o a b = true := by rcases db with rfl | rfl | rfl <;> exact typedP_n (by decide) (by decide)
  by_cases g1 : a < p.blocks.length
  case neg =>
    have r2 : (a < (p.blocks.length : Int)) = False := eq_false g1
    rcases db with rfl | rfl | rfl
    all_goals
      have hs := Lib.hid (HE3.out hty (hth.trans (decide_eq_false (fun q => g1 q.1))))
      clear c9 c26 cn d1 d33 dv ds hth hty g1
      generalize p.consts.length = n0 at *
      generalize p.vars.length = n1 at *
      generalize p.blocks.length = n2 at *
      generalize p.units.length = n3 at *
      clear hx hux f4
      go_enter Tryz.func40, Tryz.ntmps40
      go_wp2_with fail
      refine (HR.out _).mono ?_; rintro e w1 ⟨rfl, hb1⟩
      rw [← HW0.out] at hb1
      have hb1w := k4.trans (hb1.mono k4.size)
      have y1 := Nat.lt_of_lt_of_le z1 hb1.size
      have y2 := Nat.lt_of_lt_of_le k3 hb1.size
      have e00 := (K1.out.keep z1 hb1) 0 _ rfl
      have e01 := (K1.out.keep z1 hb1) 1 _ rfl
      have e02 := (K1.out.keep z1 hb1) 2 _ rfl
      have e03 := (K1.out.keep z1 hb1) 3 _ rfl
      have e20 := (K2.out.keep k3 hb1) 0 _ rfl
      have e21 := (K2.out.keep k3 hb1) 1 _ rfl
      have e22 := (K2.out.keep k3 hb1) 2 _ rfl
      go_wp2_with fail
      go_ret
      exact ⟨by rw [hs.out]; rfl, hb1w⟩
  obtain ⟨ka, rfl⟩ := Int.eq_ofNat_of_zero_le ha
  obtain ⟨y, hy⟩ := get_some (L := p.blocks) (n := ka) (by omega)
  have hky : kindAt p ka = y.kind := by unfold kindAt; simp [List.getD, hy]
  rw [hky] at hth
  obtain ⟨b2, off2, rfl, hbw2, hc2⟩ := blk_at hbk (k := ka) (lt_of_get hy)
  obtain ⟨_, cc, _, _⟩ := hc2 ka y hy
  have r2 : ((ka : Int) < (p.blocks.length : Int)) = True := eq_true g1
  generalize hkk : y.kind = kk at *
  clear hc2 hy hky hkk hbk hv
  by_cases d36 : o = 36
  · subst d36
    have hs := Lib.hid (HE4.out hty (hth.trans (decide_eq_true ⟨g1, fun q => absurd q (by decide)⟩)))
    clear c9 c26 cn d1 d33 dv ds hth hty g1
    generalize p.consts.length = n0 at *
    generalize p.vars.length = n1 at *
    generalize p.blocks.length = n2 at *
    generalize p.units.length = n3 at *
    clear hx hux f4
    go_enter Tryz.func40, Tryz.ntmps40
    go_wp2_with fail
    refine (HR.out _).mono ?_; rintro e w1 ⟨rfl, hb1⟩
    rw [← HW0.out] at hb1
    have hb1w := k4.trans (hb1.mono k4.size)
    have y1 := Nat.lt_of_lt_of_le z1 hb1.size
    have y2 := Nat.lt_of_lt_of_le k3 hb1.size
    have e00 := (K1.out.keep z1 hb1) 0 _ rfl
    have e01 := (K1.out.keep z1 hb1) 1 _ rfl
    have e02 := (K1.out.keep z1 hb1) 2 _ rfl
    have e03 := (K1.out.keep z1 hb1) 3 _ rfl
    have e20 := (K2.out.keep k3 hb1) 0 _ rfl
    have e21 := (K2.out.keep k3 hb1) 1 _ rfl
    have e22 := (K2.out.keep k3 hb1) 2 _ rfl
    have cc1 := (hb1w.cell (p := ⟨b2, off2 + ka * 2 + 1, none⟩) hbw2).trans cc
    go_wp2_with fail
    go_ret
    exact ⟨by rw [hs.out]; rfl, hb1w⟩
  have HF := Lib.hid (fun (hk : 1 ≤ kk ∧ kk ≤ 8) W => ref11_Fields kk hk W)
  have HFn := Lib.hid (fun (hk : ¬ (1 ≤ kk ∧ kk ≤ 8)) W => ref11_Fields_no kk hk W)
  have hbn := @bF_no kk
  have hin := @bI_no kk
  have hbl : (bF kk).length ≤ 8 := by unfold bF; repeat' split
                                      all_goals decide
  by_cases d35 : o = 35
  · subst d35
    have hrn : reachN 35 kk = bI kk := by unfold reachN; exact if_pos rfl
    by_cases hk : 1 ≤ kk ∧ kk ≤ 8
    case neg =>
      have hr0 : reachN 35 kk = 0 := by rw [hrn, hin hk] <;> rfl
      have hs := Lib.hid (HE3.out hty (hth.trans (decide_eq_false (fun q => by have := q.2 (by decide); omega))))
      have HFn := Lib.hid (HFn.out hk)
      have r9 : (b < 0) = False := eq_false (by omega)
      clear c9 c26 cn d1 d33 dv ds hth hty g1 hrn hr0 hbn hin d36 HF hk hbl hbp
      generalize p.consts.length = n0 at *
      generalize p.vars.length = n1 at *
      generalize p.blocks.length = n2 at *
      generalize p.units.length = n3 at *
      clear hx hux f4
      go_enter Tryz.func40, Tryz.ntmps40
      go_wp2_with fail
      refine (HR.out _).mono ?_; rintro e w1 ⟨rfl, hb1⟩
      rw [← HW0.out] at hb1
      have hb1w := k4.trans (hb1.mono k4.size)
      have y1 := Nat.lt_of_lt_of_le z1 hb1.size
      have y2 := Nat.lt_of_lt_of_le k3 hb1.size
      have e00 := (K1.out.keep z1 hb1) 0 _ rfl
      have e01 := (K1.out.keep z1 hb1) 1 _ rfl
      have e02 := (K1.out.keep z1 hb1) 2 _ rfl
      have e03 := (K1.out.keep z1 hb1) 3 _ rfl
      have e20 := (K2.out.keep k3 hb1) 0 _ rfl
      have e21 := (K2.out.keep k3 hb1) 1 _ rfl
      have e22 := (K2.out.keep k3 hb1) 2 _ rfl
      have cc1 := (hb1w.cell (p := ⟨b2, off2 + ka * 2 + 1, none⟩) hbw2).trans cc
      go_wp2_with fail
      refine (HFn.out _).mono ?_; rintro e w2 ⟨rfl, rfl⟩
      go_wp2_with fail
      go_ret
      exact ⟨by rw [hs.out]; rfl, hb1w⟩
    have HF := Lib.hid (HF.out hk)
    rw [hrn] at hth
    by_cases g : b < bI kk
    all_goals
      have hs := Lib.hid (by first | exact HE4.out hty (hth.trans (decide_eq_true ⟨g1, fun _ => g⟩)) | exact HE3.out hty (hth.trans (decide_eq_false (fun q => g (q.2 (by decide))))))
      first | have qg := eq_false g | have qg := eq_true g
      clear c9 c26 cn d1 d33 dv ds hth hty g g1 hrn hbn hin d36 HFn hk hbp
      generalize (bF kk).length = fl at *
      generalize bI kk = il at *
      generalize nmV kk = nmv at *
      generalize tyV kk = tyv at *
      generalize p.consts.length = n0 at *
      generalize p.vars.length = n1 at *
      generalize p.blocks.length = n2 at *
      generalize p.units.length = n3 at *
      clear hx hux f4
      go_enter Tryz.func40, Tryz.ntmps40
      go_wp2_with fail
      refine (HR.out _).mono ?_; rintro e w1 ⟨rfl, hb1⟩
      rw [← HW0.out] at hb1
      have hb1w := k4.trans (hb1.mono k4.size)
      have y1 := Nat.lt_of_lt_of_le z1 hb1.size
      have y2 := Nat.lt_of_lt_of_le k3 hb1.size
      have e00 := (K1.out.keep z1 hb1) 0 _ rfl
      have e01 := (K1.out.keep z1 hb1) 1 _ rfl
      have e02 := (K1.out.keep z1 hb1) 2 _ rfl
      have e03 := (K1.out.keep z1 hb1) 3 _ rfl
      have e20 := (K2.out.keep k3 hb1) 0 _ rfl
      have e21 := (K2.out.keep k3 hb1) 1 _ rfl
      have e22 := (K2.out.keep k3 hb1) 2 _ rfl
      have cc1 := (hb1w.cell (p := ⟨b2, off2 + ka * 2 + 1, none⟩) hbw2).trans cc
      go_wp2_with fail
      refine (HF.out _).mono ?_; rintro e w2 ⟨rfl, rfl⟩
      go_wp2_with fail
      go_ret
      exact ⟨by rw [hs.out]; rfl, by first | (repeat' (first | (with_reducible exact Below.refl _ _) | (with_reducible assumption) | (with_reducible refine below_drewN ?_ _) | (with_reducible refine Below.alloc ?_ ?_ _) | (with_reducible refine Below.drew ?_) | (with_reducible refine Below.setCell ?_ ?_ _) | go_size)) | (refine hb1w.trans ?_; exact (show Below w1.heap.size w1 _ by (repeat' (first | (with_reducible exact Below.refl _ _) | (with_reducible assumption) | (with_reducible refine below_drewN ?_ _) | (with_reducible refine Below.alloc ?_ ?_ _) | (with_reducible refine Below.drew ?_) | (with_reducible refine Below.setCell ?_ ?_ _) | go_size))).mono hb1w.size)⟩
  by_cases d37 : o = 37
  · subst d37
    have hrn : reachN 37 kk = ((bF kk).length : Int) := by unfold reachN; exact if_neg (by decide)
    by_cases hk : 1 ≤ kk ∧ kk ≤ 8
    case neg =>
      have hr0 : reachN 37 kk = 0 := by rw [hrn, hbn hk] <;> rfl
      have hs := Lib.hid (HE3.out hty (hth.trans (decide_eq_false (fun q => by have := q.2 (by decide); omega))))
      have HFn := Lib.hid (HFn.out hk)
      have r9 : (b < 0) = False := eq_false (by omega)
      clear c9 c26 cn d1 d33 dv ds hth hty g1 hrn hr0 hbn hin d36 HF hk hbl hbp
      generalize p.consts.length = n0 at *
      generalize p.vars.length = n1 at *
      generalize p.blocks.length = n2 at *
      generalize p.units.length = n3 at *
      clear hx hux f4
      go_enter Tryz.func40, Tryz.ntmps40
      go_wp2_with fail
      refine (HR.out _).mono ?_; rintro e w1 ⟨rfl, hb1⟩
      rw [← HW0.out] at hb1
      have hb1w := k4.trans (hb1.mono k4.size)
      have y1 := Nat.lt_of_lt_of_le z1 hb1.size
      have y2 := Nat.lt_of_lt_of_le k3 hb1.size
      have e00 := (K1.out.keep z1 hb1) 0 _ rfl
      have e01 := (K1.out.keep z1 hb1) 1 _ rfl
      have e02 := (K1.out.keep z1 hb1) 2 _ rfl
      have e03 := (K1.out.keep z1 hb1) 3 _ rfl
      have e20 := (K2.out.keep k3 hb1) 0 _ rfl
      have e21 := (K2.out.keep k3 hb1) 1 _ rfl
      have e22 := (K2.out.keep k3 hb1) 2 _ rfl
      have cc1 := (hb1w.cell (p := ⟨b2, off2 + ka * 2 + 1, none⟩) hbw2).trans cc
      go_wp2_with fail
      refine (HFn.out _).mono ?_; rintro e w2 ⟨rfl, rfl⟩
      go_wp2_with fail
      go_ret
      exact ⟨by rw [hs.out]; rfl, hb1w⟩
    have HF := Lib.hid (HF.out hk)
    rw [hrn] at hth
    by_cases g : b < ((bF kk).length : Int)
    all_goals
      have hs := Lib.hid (by first | exact HE4.out hty (hth.trans (decide_eq_true ⟨g1, fun _ => g⟩)) | exact HE3.out hty (hth.trans (decide_eq_false (fun q => g (q.2 (by decide))))))
      first | have qg := eq_false g | have qg := eq_true g
      clear c9 c26 cn d1 d33 dv ds hth hty g g1 hrn hbn hin d36 HFn hk hbp
      generalize (bF kk).length = fl at *
      generalize bI kk = il at *
      generalize nmV kk = nmv at *
      generalize tyV kk = tyv at *
      generalize p.consts.length = n0 at *
      generalize p.vars.length = n1 at *
      generalize p.blocks.length = n2 at *
      generalize p.units.length = n3 at *
      clear hx hux f4
      go_enter Tryz.func40, Tryz.ntmps40
      go_wp2_with fail
      refine (HR.out _).mono ?_; rintro e w1 ⟨rfl, hb1⟩
      rw [← HW0.out] at hb1
      have hb1w := k4.trans (hb1.mono k4.size)
      have y1 := Nat.lt_of_lt_of_le z1 hb1.size
      have y2 := Nat.lt_of_lt_of_le k3 hb1.size
      have e00 := (K1.out.keep z1 hb1) 0 _ rfl
      have e01 := (K1.out.keep z1 hb1) 1 _ rfl
      have e02 := (K1.out.keep z1 hb1) 2 _ rfl
      have e03 := (K1.out.keep z1 hb1) 3 _ rfl
      have e20 := (K2.out.keep k3 hb1) 0 _ rfl
      have e21 := (K2.out.keep k3 hb1) 1 _ rfl
      have e22 := (K2.out.keep k3 hb1) 2 _ rfl
      have cc1 := (hb1w.cell (p := ⟨b2, off2 + ka * 2 + 1, none⟩) hbw2).trans cc
      go_wp2_with fail
      refine (HF.out _).mono ?_; rintro e w2 ⟨rfl, rfl⟩
      go_wp2_with fail
      go_ret
      exact ⟨by rw [hs.out]; rfl, by first | (repeat' (first | (with_reducible exact Below.refl _ _) | (with_reducible assumption) | (with_reducible refine below_drewN ?_ _) | (with_reducible refine Below.alloc ?_ ?_ _) | (with_reducible refine Below.drew ?_) | (with_reducible refine Below.setCell ?_ ?_ _) | go_size)) | (refine hb1w.trans ?_; exact (show Below w1.heap.size w1 _ by (repeat' (first | (with_reducible exact Below.refl _ _) | (with_reducible assumption) | (with_reducible refine below_drewN ?_ _) | (with_reducible refine Below.alloc ?_ ?_ _) | (with_reducible refine Below.drew ?_) | (with_reducible refine Below.setCell ?_ ?_ _) | go_size))).mono hb1w.size)⟩
  exact absurd db (by omega)
end Go.Proofs.YtefejcofmopjfaaGreatDoor
