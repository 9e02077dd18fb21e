/- Layer 19: what an instruction takes, and leaves, as the program tells it. -/
import Derived.Test.YtjkblhopdjgkiaaDoorStackEff
namespace Go.Proofs.YtjkblhopdjgkiaaDoor
open Go.RowKit
set_option linter.unusedSimpArgs false
set_option linter.unusedVariables false
def takesO (p : Pr) (u o a b : Int) : List Int := if oneP p u o a b = 0 then takesL p (unAt p u) o a b else []
def leavesO (p : Pr) (u o a b : Int) : List Int := if oneP p u o a b = 0 then leavesL p (unAt p u) o a b else []
set_option maxHeartbeats 4000000 in
theorem stack_Takes (pc pv pb pu : Value) (p : Pr) (u o a b : Int) (w : World) (h : PrAt w pc pv pb pu p) (hT : TabR w) (hB : BTab w) (hf : fewP p = true) (hia : I64 a) (hib : I64 b) :
    Calls Tryd.prog 7 #[.agg #[pc, pv, pb, pu], .int .i64 u, .agg #[.int .i64 o, .int .i64 a, .int .i64 b]] w fun e w' => ∃ r, e = .returned r ∧ RowR 1 intR w' r (takesO p u o a b) ∧ Below w.heap.size w w' := by
  have cp := @cell_past
  have HO := Lib.hid (fun W (hb : Below w.heap.size w W) => refs_One pc pv pb pu p u o a b W (h.below hb) (hT.below hb) hf)
  have HE := Lib.hid (fun (h1 : oneP p u o a b = 0) W (hb : Below w.heap.size w W) => stack_effect pc pv pb pu p u o a b W (h.below hb) (hT.below hb) (hB.below hb) hf h1 hia hib)
  obtain ⟨W0, hW0⟩ : ∃ W0, W0 = (w.alloc (.cells #[pc, pv, pb, pu] 27)).alloc (.cells #[.int .i64 o, .int .i64 a, .int .i64 b] 29) := ⟨_, rfl⟩
  obtain ⟨k1, k2, k3, k4⟩ := boxed2 w [pc, pv, pb, pu] [.int .i64 o, .int .i64 a, .int .i64 b] 27 29 (W' := W0) (by rw [hW0]; exact Below.refl _ _)
  have HW0 := Lib.hid hW0
  have K1 := Lib.hid k1
  have K2 := Lib.hid k2
  have z1 : w.heap.size < W0.heap.size := by omega
  clear k1 k2 h hT hB hW0
  by_cases h1 : oneP p u o a b = 0
  case neg =>
    have hs := Lib.hid (show takesO p u o a b = [] from if_neg h1)
    generalize oneP p u o a b = e1 at *
    have q : (e1 != 0) = true := by simpa using h1
    clear h1 HE
    go_enter Tryd.func7, Tryd.ntmps7
    go_wp2_with fail
    refine (HO.out _ (by (repeat' (first | (with_reducible exact Below.refl _ _) | (with_reducible assumption) | (with_reducible refine below_drewN ?_ _) | (with_reducible refine Below.alloc ?_ ?_ _) | (with_reducible refine Below.drew ?_) | (with_reducible refine Below.setCell ?_ ?_ _) | go_size)))).mono ?_; rintro e w1 ⟨rfl, hb1⟩
    rw [← HW0.out] at hb1
    go_wp2_with fail
    go_returns
    exact ⟨_, rfl, by rw [hs.out]; exact row_none, k4.trans (hb1.mono k4.size)⟩
  have hs := Lib.hid (show takesO p u o a b = takesL p (unAt p u) o a b from if_pos h1)
  have HE := Lib.hid (HE.out h1)
  rw [h1] at HO
  clear h1
  go_enter Tryd.func7, Tryd.ntmps7
  go_wp2_with fail
  refine (HO.out _ (by (repeat' (first | (with_reducible exact Below.refl _ _) | (with_reducible assumption) | (with_reducible refine below_drewN ?_ _) | (with_reducible refine Below.alloc ?_ ?_ _) | (with_reducible refine Below.drew ?_) | (with_reducible refine Below.setCell ?_ ?_ _) | go_size)))).mono ?_; rintro e w1 ⟨rfl, hb1⟩
  rw [← HW0.out] at hb1
  have hb1w := k4.trans (hb1.mono k4.size)
  have e00 := (K1.out.keep z1 hb1) 0 _ rfl
  have e01 := (K1.out.keep z1 hb1) 1 _ rfl
  have e02 := (K1.out.keep z1 hb1) 2 _ rfl
  have e03 := (K1.out.keep z1 hb1) 3 _ rfl
  have e20 := (K2.out.keep k3 hb1) 0 _ rfl
  have e21 := (K2.out.keep k3 hb1) 1 _ rfl
  have e22 := (K2.out.keep k3 hb1) 2 _ rfl
  go_wp2_with fail
  refine (HE.out _ hb1w).mono ?_; rintro e w2 ⟨x1, x2, rfl, hx1, hx2, hb2⟩
  have Hx := Lib.hid hx1
  obtain ⟨xa, xc, rfl⟩ := row_get hx1
  obtain ⟨ya, yc, rfl⟩ := row_get hx2
  clear hx1 hx2
  go_wp2_with fail
  go_returns
  exact ⟨_, rfl, by rw [hs.out]; exact Hx.out, hb1w.trans (hb2.mono hb1w.size)⟩
set_option maxHeartbeats 4000000 in
theorem stack_Leaves (pc pv pb pu : Value) (p : Pr) (u o a b : Int) (w : World) (h : PrAt w pc pv pb pu p) (hT : TabR w) (hB : BTab w) (hf : fewP p = true) (hia : I64 a) (hib : I64 b) :
    Calls Tryd.prog 8 #[.agg #[pc, pv, pb, pu], .int .i64 u, .agg #[.int .i64 o, .int .i64 a, .int .i64 b]] w fun e w' => ∃ r, e = .returned r ∧ RowR 1 intR w' r (leavesO p u o a b) ∧ Below w.heap.size w w' := by
  have cp := @cell_past
  have HO := Lib.hid (fun W (hb : Below w.heap.size w W) => refs_One pc pv pb pu p u o a b W (h.below hb) (hT.below hb) hf)
  have HE := Lib.hid (fun (h1 : oneP p u o a b = 0) W (hb : Below w.heap.size w W) => stack_effect pc pv pb pu p u o a b W (h.below hb) (hT.below hb) (hB.below hb) hf h1 hia hib)
  obtain ⟨W0, hW0⟩ : ∃ W0, W0 = (w.alloc (.cells #[pc, pv, pb, pu] 27)).alloc (.cells #[.int .i64 o, .int .i64 a, .int .i64 b] 29) := ⟨_, rfl⟩
  obtain ⟨k1, k2, k3, k4⟩ := boxed2 w [pc, pv, pb, pu] [.int .i64 o, .int .i64 a, .int .i64 b] 27 29 (W' := W0) (by rw [hW0]; exact Below.refl _ _)
  have HW0 := Lib.hid hW0
  have K1 := Lib.hid k1
  have K2 := Lib.hid k2
  have z1 : w.heap.size < W0.heap.size := by omega
  clear k1 k2 h hT hB hW0
  by_cases h1 : oneP p u o a b = 0
  case neg =>
    have hs := Lib.hid (show leavesO p u o a b = [] from if_neg h1)
    generalize oneP p u o a b = e1 at *
    have q : (e1 != 0) = true := by simpa using h1
    clear h1 HE
    go_enter Tryd.func8, Tryd.ntmps8
    go_wp2_with fail
    refine (HO.out _ (by (repeat' (first | (with_reducible exact Below.refl _ _) | (with_reducible assumption) | (with_reducible refine below_drewN ?_ _) | (with_reducible refine Below.alloc ?_ ?_ _) | (with_reducible refine Below.drew ?_) | (with_reducible refine Below.setCell ?_ ?_ _) | go_size)))).mono ?_; rintro e w1 ⟨rfl, hb1⟩
    rw [← HW0.out] at hb1
    go_wp2_with fail
    go_returns
    exact ⟨_, rfl, by rw [hs.out]; exact row_none, k4.trans (hb1.mono k4.size)⟩
  have hs := Lib.hid (show leavesO p u o a b = leavesL p (unAt p u) o a b from if_pos h1)
  have HE := Lib.hid (HE.out h1)
  rw [h1] at HO
  clear h1
  go_enter Tryd.func8, Tryd.ntmps8
  go_wp2_with fail
  refine (HO.out _ (by (repeat' (first | (with_reducible exact Below.refl _ _) | (with_reducible assumption) | (with_reducible refine below_drewN ?_ _) | (with_reducible refine Below.alloc ?_ ?_ _) | (with_reducible refine Below.drew ?_) | (with_reducible refine Below.setCell ?_ ?_ _) | go_size)))).mono ?_; rintro e w1 ⟨rfl, hb1⟩
  rw [← HW0.out] at hb1
  have hb1w := k4.trans (hb1.mono k4.size)
  have e00 := (K1.out.keep z1 hb1) 0 _ rfl
  have e01 := (K1.out.keep z1 hb1) 1 _ rfl
  have e02 := (K1.out.keep z1 hb1) 2 _ rfl
  have e03 := (K1.out.keep z1 hb1) 3 _ rfl
  have e20 := (K2.out.keep k3 hb1) 0 _ rfl
  have e21 := (K2.out.keep k3 hb1) 1 _ rfl
  have e22 := (K2.out.keep k3 hb1) 2 _ rfl
  go_wp2_with fail
  refine (HE.out _ hb1w).mono ?_; rintro e w2 ⟨x1, x2, rfl, hx1, hx2, hb2⟩
  have Hx := Lib.hid hx2
  obtain ⟨xa, xc, rfl⟩ := row_get hx1
  obtain ⟨ya, yc, rfl⟩ := row_get hx2
  clear hx1 hx2
  go_wp2_with fail
  go_returns
  exact ⟨_, rfl, by rw [hs.out]; exact Hx.out, hb1w.trans (hb2.mono hb1w.size)⟩
end Go.Proofs.YtjkblhopdjgkiaaDoor
