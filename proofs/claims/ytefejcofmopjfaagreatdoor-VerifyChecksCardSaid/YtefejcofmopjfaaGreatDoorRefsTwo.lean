/- Layer 18: what is wrong with an instruction's operands. -/
import Derived.Test.YtefejcofmopjfaaGreatDoorRefsOne
namespace Go.Proofs.YtefejcofmopjfaaGreatDoor
open Go.RowKit
set_option linter.unusedSimpArgs false
set_option linter.unusedVariables false
theorem oneP_u {p : Pr} {u o a b : Int} (h : ¬ (0 ≤ u ∧ u < p.units.length)) : oneP p u o a b = 15 := if_pos h
theorem oneP_r {p : Pr} {u o a b : Int} (h : 0 ≤ u ∧ u < p.units.length) (hr : oRight o a b = false) : oneP p u o a b = 7 := by unfold oneP; rw [if_neg (fun q => q h), if_pos hr]
theorem oneP_t {p : Pr} {u o a b : Int} (h : 0 ≤ u ∧ u < p.units.length) (hr : oRight o a b = true) (ht : typedP o a b = false) : oneP p u o a b = 10 := by unfold oneP; rw [if_neg (fun q => q h), if_neg (by rw [hr]; decide), if_pos ht]
theorem oneP_n {p : Pr} {u o a b : Int} (h : 0 ≤ u ∧ u < p.units.length) (hr : oRight o a b = true) (ht : typedP o a b = true) (hn : thereP p (unAt p u) o a b = false) : oneP p u o a b = 8 := by unfold oneP; rw [if_neg (fun q => q h), if_neg (by rw [hr]; decide), if_neg (by rw [ht]; decide), if_pos hn]
theorem oneP_ok {p : Pr} {u o a b : Int} (h : 0 ≤ u ∧ u < p.units.length) (hr : oRight o a b = true) (ht : typedP o a b = true) (hn : thereP p (unAt p u) o a b = true) : oneP p u o a b = 0 := by unfold oneP; rw [if_neg (fun q => q h), if_neg (by rw [hr]; decide), if_neg (by rw [ht]; decide), if_neg (by rw [hn]; decide)]
set_option maxHeartbeats 4000000 in
theorem refs_OneW (pc pv pb pu : Value) (p : Pr) (u o a b : Int) (w : World) (h : PrAt w pc pv pb pu p) (hT : TabR w) (hf : wideP p = true) :
    Calls Tryz.prog 74 #[.agg #[pc, pv, pb, pu], .int .i64 u, .agg #[.int .i64 o, .int .i64 a, .int .i64 b]] w fun e w' => e = .returned (.int .i64 (oneP p u o a b)) ∧ Below w.heap.size w w' := by
  have cp := @cell_past
  obtain ⟨⟨f0, f1, f2, f3⟩, _, _, f4⟩ := wideP_is hf
  have HR := Lib.hid (fun W (hb : Below w.heap.size w W) => op_RightS o a b W (hT.st.below hb))
  have HT := Lib.hid (fun W (hb : Below w.heap.size w W) => refs_typed o a b W (hT.below hb))
  have HN := Lib.hid (fun (hu : 0 ≤ u ∧ u < p.units.length) (ha : 0 ≤ a) W (hb : Below w.heap.size w W) => refs_thereW pc pv pb pu p u o a b W (h.below hb) (hT.below hb) hf hu ha)
  have l3 := h.us.len
  obtain ⟨s3, t3, rfl⟩ := row_get h.us
  obtain ⟨W0, hW0⟩ : ∃ W0, W0 = (w.alloc (.cells #[pc, pv, pb, .slice s3 p.units.length t3] 27)).alloc (.cells #[.int .i64 o, .int .i64 a, .int .i64 b] 40) := ⟨_, rfl⟩
  obtain ⟨k1, k2, k3, k4⟩ := boxed2 w [pc, pv, pb, .slice s3 p.units.length t3] [.int .i64 o, .int .i64 a, .int .i64 b] 27 40 (W' := W0) (by rw [hW0]; exact Below.refl _ _)
  have HW0 := Lib.hid hW0
  clear hW0
  have K1 := Lib.hid k1
  have K2 := Lib.hid k2
  have z1 : w.heap.size < W0.heap.size := by omega
  clear k1 k2 h hT
  by_cases hu0 : u < 0
  · have hs := Lib.hid (oneP_u (p := p) (o := o) (a := a) (b := b) (show ¬ (0 ≤ u ∧ u < p.units.length) by omega))
    generalize p.units.length = n3 at *
    have q0 : (u < 0) = True := eq_true hu0
    clear hu0
    go_enter Tryz.func74, Tryz.ntmps74
    go_wp2_with fail
    go_ret
    exact ⟨by rw [hs.out]; rfl, by (repeat' (first | (with_reducible exact Below.refl _ _) | (with_reducible assumption) | (with_reducible refine below_drewN ?_ _) | (with_reducible refine Below.alloc ?_ ?_ _) | (with_reducible refine Below.drew ?_) | (with_reducible refine Below.setCell ?_ ?_ _) | go_size))⟩
  have q0 : (u < 0) = False := eq_false hu0
  by_cases hu1 : u < p.units.length
  case neg =>
    have hs := Lib.hid (oneP_u (p := p) (o := o) (a := a) (b := b) (show ¬ (0 ≤ u ∧ u < p.units.length) by omega))
    generalize p.units.length = n3 at *
    have q1 : ((n3 : Int) ≤ u) = True := eq_true (by omega)
    have q2 : (u < (n3 : Int)) = False := eq_false (by omega)
    clear hu0 hu1
    go_enter Tryz.func74, Tryz.ntmps74
    go_wp2_with fail
    go_ret
    exact ⟨by rw [hs.out]; rfl, by (repeat' (first | (with_reducible exact Below.refl _ _) | (with_reducible assumption) | (with_reducible refine below_drewN ?_ _) | (with_reducible refine Below.alloc ?_ ?_ _) | (with_reducible refine Below.drew ?_) | (with_reducible refine Below.setCell ?_ ?_ _) | go_size))⟩
  have HU := Lib.hid (show 0 ≤ u ∧ u < p.units.length by omega)
  have hn : (if ¬ (0 ≤ u ∧ u < p.units.length) then True else False) = False := by rw [if_neg (fun q => q HU.out)]
  clear hn
  have q1 : ((p.units.length : Int) ≤ u) = False := eq_false (by omega)
  have q2 : (u < (p.units.length : Int)) = True := eq_true (by omega)
  have HE := Lib.hid (fun (hr : oRight o a b = false) => oneP_r HU.out hr)
  have HE2 := Lib.hid (fun (hr : oRight o a b = true) (ht : typedP o a b = false) => oneP_t HU.out hr ht)
  have HE3 := Lib.hid (fun (hr : oRight o a b = true) (ht : typedP o a b = true) (hn : thereP p (unAt p u) o a b = false) => oneP_n HU.out hr ht hn)
  have HE4 := Lib.hid (fun (hr : oRight o a b = true) (ht : typedP o a b = true) (hn : thereP p (unAt p u) o a b = true) => oneP_ok HU.out hr ht hn)
  have HN := Lib.hid (fun (ha : 0 ≤ a) => HN.out HU.out ha)
  clear HU hu0 hu1
  generalize p.units.length = n3 at *
  cases hr : oRight o a b
  · have hs := Lib.hid (HE.out hr)
    rw [hr] at HR
    go_enter Tryz.func74, Tryz.ntmps74
    go_wp2_with fail
    refine (HR.out _ (by (repeat' (first | (with_reducible exact Below.refl _ _) | (with_reducible assumption) | (with_reducible refine below_drewN ?_ _) | (with_reducible refine Below.alloc ?_ ?_ _) | (with_reducible refine Below.drew ?_) | (with_reducible refine Below.setCell ?_ ?_ _) | go_size)))).mono ?_; rintro e w1 ⟨rfl, hb1⟩
    rw [← HW0.out] at hb1
    go_wp2_with fail
    go_ret
    exact ⟨by rw [hs.out]; rfl, k4.trans (hb1.mono k4.size)⟩
  have ha := (oRight_pos hr).2.1
  have HN := Lib.hid (HN.out ha)
  rw [hr] at HR
  clear ha
  cases ht : typedP o a b
  · have hs := Lib.hid (HE2.out hr ht)
    rw [ht] at HT
    clear hr ht
    go_enter Tryz.func74, Tryz.ntmps74
    go_wp2_with fail
    refine (HR.out _ (by (repeat' (first | (with_reducible exact Below.refl _ _) | (with_reducible assumption) | (with_reducible refine below_drewN ?_ _) | (with_reducible refine Below.alloc ?_ ?_ _) | (with_reducible refine Below.drew ?_) | (with_reducible refine Below.setCell ?_ ?_ _) | go_size)))).mono ?_; rintro e w1 ⟨rfl, hb1⟩
    rw [← HW0.out] at hb1
    have e20 := (K2.out.keep k3 hb1) 0 _ rfl
    have e21 := (K2.out.keep k3 hb1) 1 _ rfl
    have e22 := (K2.out.keep k3 hb1) 2 _ rfl
    go_wp2_with fail
    refine (HT.out _ (k4.trans (hb1.mono k4.size))).mono ?_; rintro e w2 ⟨rfl, hb2⟩
    have hb2 := hb1.trans (hb2.mono hb1.size)
    go_wp2_with fail
    go_ret
    exact ⟨by rw [hs.out]; rfl, k4.trans (hb2.mono k4.size)⟩
  rw [ht] at HT
  cases hn : thereP p (unAt p u) o a b
  all_goals
    have hs := Lib.hid (by first | exact HE3.out hr ht hn | exact HE4.out hr ht hn)
    rw [hn] at HN
    clear hr ht hn
    go_enter Tryz.func74, Tryz.ntmps74
    go_wp2_with fail
    refine (HR.out _ (by (repeat' (first | (with_reducible exact Below.refl _ _) | (with_reducible assumption) | (with_reducible refine below_drewN ?_ _) | (with_reducible refine Below.alloc ?_ ?_ _) | (with_reducible refine Below.drew ?_) | (with_reducible refine Below.setCell ?_ ?_ _) | go_size)))).mono ?_; rintro e w1 ⟨rfl, hb1⟩
    rw [← HW0.out] at hb1
    have e20 := (K2.out.keep k3 hb1) 0 _ rfl
    have e21 := (K2.out.keep k3 hb1) 1 _ rfl
    have e22 := (K2.out.keep k3 hb1) 2 _ rfl
    go_wp2_with fail
    refine (HT.out _ (k4.trans (hb1.mono k4.size))).mono ?_; rintro e w2 ⟨rfl, hb2⟩
    have hb2 := hb1.trans (hb2.mono hb1.size)
    clear e20 e21 e22
    have e20 := (K2.out.keep k3 hb2) 0 _ rfl
    have e21 := (K2.out.keep k3 hb2) 1 _ rfl
    have e22 := (K2.out.keep k3 hb2) 2 _ rfl
    have e00 := (K1.out.keep z1 hb2) 0 _ rfl
    have e01 := (K1.out.keep z1 hb2) 1 _ rfl
    have e02 := (K1.out.keep z1 hb2) 2 _ rfl
    have e03 := (K1.out.keep z1 hb2) 3 _ rfl
    go_wp2_with fail
    refine (HN.out _ (k4.trans (hb2.mono k4.size))).mono ?_; rintro e w3 ⟨rfl, hb3⟩
    have hb3 := hb2.trans (hb3.mono hb2.size)
    go_wp2_with fail
    go_ret
    exact ⟨by rw [hs.out]; rfl, k4.trans (hb3.mono k4.size)⟩
theorem refs_One (pc pv pb pu : Value) (p : Pr) (u o a b : Int) (w : World) (h : PrAt w pc pv pb pu p) (hT : TabR w) (hf : fewP p = true) :
    Calls Tryz.prog 74 #[.agg #[pc, pv, pb, pu], .int .i64 u, .agg #[.int .i64 o, .int .i64 a, .int .i64 b]] w fun e w' => e = .returned (.int .i64 (oneP p u o a b)) ∧ Below w.heap.size w w' := refs_OneW pc pv pb pu p u o a b w h hT (few_wide hf)
end Go.Proofs.YtefejcofmopjfaaGreatDoor
