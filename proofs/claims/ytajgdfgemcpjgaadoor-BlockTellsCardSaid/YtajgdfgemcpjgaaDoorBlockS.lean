/- Layer 11: Set and Get, and the answer's. -/
import Derived.Test.YtajgdfgemcpjgaaDoorBlockF
namespace Go.Proofs.YtajgdfgemcpjgaaDoor
open Go.RowKit
set_option linter.unusedSimpArgs false
set_option linter.unusedVariables false
def sj (k i v j xj : Int) : Int := if i = j ∧ j < bI k then kWrap (fldT k i) v else xj
def bSetV (k i v x0 x1 x2 x3 x4 x5 x6 x7 x8 x9 : Int) : Value := .agg #[.int .i64 (sj k i v 0 x0), .int .i64 (sj k i v 1 x1), .int .i64 (sj k i v 2 x2), .int .i64 (sj k i v 3 x3), .int .i64 (sj k i v 4 x4), .int .i64 x5, .int .i64 x6, .int .i64 x7, .int .i64 x8, .int .i64 x9]
theorem sj_no {k i v j xj : Int} (h : ¬ (0 ≤ i ∧ i < bI k)) (hj : 0 ≤ j) : sj k i v j xj = xj := by unfold sj; rw [if_neg (by rintro ⟨rfl, h2⟩; exact h ⟨hj, h2⟩)]
theorem bSet_no {k i : Int} (h : ¬ (0 ≤ i ∧ i < bI k)) (v x0 x1 x2 x3 x4 x5 x6 x7 x8 x9 : Int) : bSetV k i v x0 x1 x2 x3 x4 x5 x6 x7 x8 x9 = .agg #[.int .i64 x0, .int .i64 x1, .int .i64 x2, .int .i64 x3, .int .i64 x4, .int .i64 x5, .int .i64 x6, .int .i64 x7, .int .i64 x8, .int .i64 x9] := by
  unfold bSetV; rw [sj_no h (by decide), sj_no h (by decide), sj_no h (by decide), sj_no h (by decide), sj_no h (by decide)]
theorem kind_of_in {k i : Int} (h : 0 ≤ i ∧ i < bI k) : 1 ≤ k ∧ k ≤ 8 := by
  by_cases hk : 1 ≤ k ∧ k ≤ 8
  · exact hk
  · rw [bI_no hk] at h; omega
set_option maxHeartbeats 4000000 in
theorem block_Set1 (i v x0 x1 x2 x3 x4 x5 x6 x7 x8 x9 : Int) (hi : 0 ≤ i ∧ i < 2) (w : World) (hT : BTab w) : Calls Tryd.prog 17 #[.int .i64 1, .agg #[.int .i64 x0, .int .i64 x1, .int .i64 x2, .int .i64 x3, .int .i64 x4, .int .i64 x5, .int .i64 x6, .int .i64 x7, .int .i64 x8, .int .i64 x9], .int .i64 i, .int .i64 v] w fun e w' => e = .returned (bSetV 1 i v x0 x1 x2 x3 x4 x5 x6 x7 x8 x9) ∧ Below w.heap.size w w' := by
  have mc := @more_cell
  have mf := @more_frozen
  have ms := @more_set
  have md := more_drewN
  have md1 := more_drew
  have mcp := @cell_past
  have hbI : bI 1 = 2 := rfl
  rcases (show i = 0 ∨ i = 1 by omega) with h | h
  · subst h
    have hv := Lib.hid (show bSetV 1 0 v x0 x1 x2 x3 x4 x5 x6 x7 x8 x9 = .agg #[.int .i64 (kWrap (fldT 1 0) v), .int .i64 x1, .int .i64 x2, .int .i64 x3, .int .i64 x4, .int .i64 x5, .int .i64 x6, .int .i64 x7, .int .i64 x8, .int .i64 x9] by simp [bSetV, sj, hbI])
    go_enter Tryd.func17, Tryd.ntmps17
    go_wp2_with fail
    refine (block_Inputs _ _ (hT.below (by (repeat' (first | (with_reducible exact Below.refl _ _) | (with_reducible assumption) | (with_reducible refine below_drewN ?_ _) | (with_reducible refine Below.alloc ?_ ?_ _) | (with_reducible refine Below.drew ?_) | (with_reducible refine Below.setCell ?_ ?_ _) | go_size))))).mono ?_; rintro e w' ⟨rfl, rfl⟩
    go_wp2_with fail
    refine (block_Field _ _ _ (hT.below (by (repeat' (first | (with_reducible exact Below.refl _ _) | (with_reducible assumption) | (with_reducible refine below_drewN ?_ _) | (with_reducible refine Below.alloc ?_ ?_ _) | (with_reducible refine Below.drew ?_) | (with_reducible refine Below.setCell ?_ ?_ _) | go_size))))).mono ?_; rintro e w1 ⟨rfl, hb⟩
    obtain ⟨l, d, rfl⟩ := more_of hb
    clear hb
    go_wp2_with fail
    refine (kind_Wrap _ _ _).mono ?_; rintro e w' ⟨rfl, rfl⟩
    go_wp2_with fail
    refine bodyPost_ret (by simp [results, Tryd.results17, go_sem, more_cell, more_size, more_frozen]; try rfl) rfl ?_
    exact ⟨by rw [hv.out], by (repeat' (first | (with_reducible exact Below.refl _ _) | (with_reducible assumption) | (with_reducible refine more_below ?_ ?_ _ _) | (with_reducible refine below_drewN ?_ _) | (with_reducible refine Below.alloc ?_ ?_ _) | (with_reducible refine Below.drew ?_) | (with_reducible refine Below.setCell ?_ ?_ _) | (simp only [World.size_alloc, World.size_setCell, World.size_drew, more_size, World.heap_drewN]; omega) | go_size))⟩
  · subst h
    have hv := Lib.hid (show bSetV 1 1 v x0 x1 x2 x3 x4 x5 x6 x7 x8 x9 = .agg #[.int .i64 x0, .int .i64 (kWrap (fldT 1 1) v), .int .i64 x2, .int .i64 x3, .int .i64 x4, .int .i64 x5, .int .i64 x6, .int .i64 x7, .int .i64 x8, .int .i64 x9] by simp [bSetV, sj, hbI])
    go_enter Tryd.func17, Tryd.ntmps17
    go_wp2_with fail
    refine (block_Inputs _ _ (hT.below (by (repeat' (first | (with_reducible exact Below.refl _ _) | (with_reducible assumption) | (with_reducible refine below_drewN ?_ _) | (with_reducible refine Below.alloc ?_ ?_ _) | (with_reducible refine Below.drew ?_) | (with_reducible refine Below.setCell ?_ ?_ _) | go_size))))).mono ?_; rintro e w' ⟨rfl, rfl⟩
    go_wp2_with fail
    refine (block_Field _ _ _ (hT.below (by (repeat' (first | (with_reducible exact Below.refl _ _) | (with_reducible assumption) | (with_reducible refine below_drewN ?_ _) | (with_reducible refine Below.alloc ?_ ?_ _) | (with_reducible refine Below.drew ?_) | (with_reducible refine Below.setCell ?_ ?_ _) | go_size))))).mono ?_; rintro e w1 ⟨rfl, hb⟩
    obtain ⟨l, d, rfl⟩ := more_of hb
    clear hb
    go_wp2_with fail
    refine (kind_Wrap _ _ _).mono ?_; rintro e w' ⟨rfl, rfl⟩
    go_wp2_with fail
    refine bodyPost_ret (by simp [results, Tryd.results17, go_sem, more_cell, more_size, more_frozen]; try rfl) rfl ?_
    exact ⟨by rw [hv.out], by (repeat' (first | (with_reducible exact Below.refl _ _) | (with_reducible assumption) | (with_reducible refine more_below ?_ ?_ _ _) | (with_reducible refine below_drewN ?_ _) | (with_reducible refine Below.alloc ?_ ?_ _) | (with_reducible refine Below.drew ?_) | (with_reducible refine Below.setCell ?_ ?_ _) | (simp only [World.size_alloc, World.size_setCell, World.size_drew, more_size, World.heap_drewN]; omega) | go_size))⟩
set_option maxHeartbeats 4000000 in
theorem block_Set2 (i v x0 x1 x2 x3 x4 x5 x6 x7 x8 x9 : Int) (hi : 0 ≤ i ∧ i < 2) (w : World) (hT : BTab w) : Calls Tryd.prog 17 #[.int .i64 2, .agg #[.int .i64 x0, .int .i64 x1, .int .i64 x2, .int .i64 x3, .int .i64 x4, .int .i64 x5, .int .i64 x6, .int .i64 x7, .int .i64 x8, .int .i64 x9], .int .i64 i, .int .i64 v] w fun e w' => e = .returned (bSetV 2 i v x0 x1 x2 x3 x4 x5 x6 x7 x8 x9) ∧ Below w.heap.size w w' := by
  have mc := @more_cell
  have mf := @more_frozen
  have ms := @more_set
  have md := more_drewN
  have md1 := more_drew
  have mcp := @cell_past
  have hbI : bI 2 = 2 := rfl
  rcases (show i = 0 ∨ i = 1 by omega) with h | h
  · subst h
    have hv := Lib.hid (show bSetV 2 0 v x0 x1 x2 x3 x4 x5 x6 x7 x8 x9 = .agg #[.int .i64 (kWrap (fldT 2 0) v), .int .i64 x1, .int .i64 x2, .int .i64 x3, .int .i64 x4, .int .i64 x5, .int .i64 x6, .int .i64 x7, .int .i64 x8, .int .i64 x9] by simp [bSetV, sj, hbI])
    go_enter Tryd.func17, Tryd.ntmps17
    go_wp2_with fail
    refine (block_Inputs _ _ (hT.below (by (repeat' (first | (with_reducible exact Below.refl _ _) | (with_reducible assumption) | (with_reducible refine below_drewN ?_ _) | (with_reducible refine Below.alloc ?_ ?_ _) | (with_reducible refine Below.drew ?_) | (with_reducible refine Below.setCell ?_ ?_ _) | go_size))))).mono ?_; rintro e w' ⟨rfl, rfl⟩
    go_wp2_with fail
    refine (block_Field _ _ _ (hT.below (by (repeat' (first | (with_reducible exact Below.refl _ _) | (with_reducible assumption) | (with_reducible refine below_drewN ?_ _) | (with_reducible refine Below.alloc ?_ ?_ _) | (with_reducible refine Below.drew ?_) | (with_reducible refine Below.setCell ?_ ?_ _) | go_size))))).mono ?_; rintro e w1 ⟨rfl, hb⟩
    obtain ⟨l, d, rfl⟩ := more_of hb
    clear hb
    go_wp2_with fail
    refine (kind_Wrap _ _ _).mono ?_; rintro e w' ⟨rfl, rfl⟩
    go_wp2_with fail
    refine bodyPost_ret (by simp [results, Tryd.results17, go_sem, more_cell, more_size, more_frozen]; try rfl) rfl ?_
    exact ⟨by rw [hv.out], by (repeat' (first | (with_reducible exact Below.refl _ _) | (with_reducible assumption) | (with_reducible refine more_below ?_ ?_ _ _) | (with_reducible refine below_drewN ?_ _) | (with_reducible refine Below.alloc ?_ ?_ _) | (with_reducible refine Below.drew ?_) | (with_reducible refine Below.setCell ?_ ?_ _) | (simp only [World.size_alloc, World.size_setCell, World.size_drew, more_size, World.heap_drewN]; omega) | go_size))⟩
  · subst h
    have hv := Lib.hid (show bSetV 2 1 v x0 x1 x2 x3 x4 x5 x6 x7 x8 x9 = .agg #[.int .i64 x0, .int .i64 (kWrap (fldT 2 1) v), .int .i64 x2, .int .i64 x3, .int .i64 x4, .int .i64 x5, .int .i64 x6, .int .i64 x7, .int .i64 x8, .int .i64 x9] by simp [bSetV, sj, hbI])
    go_enter Tryd.func17, Tryd.ntmps17
    go_wp2_with fail
    refine (block_Inputs _ _ (hT.below (by (repeat' (first | (with_reducible exact Below.refl _ _) | (with_reducible assumption) | (with_reducible refine below_drewN ?_ _) | (with_reducible refine Below.alloc ?_ ?_ _) | (with_reducible refine Below.drew ?_) | (with_reducible refine Below.setCell ?_ ?_ _) | go_size))))).mono ?_; rintro e w' ⟨rfl, rfl⟩
    go_wp2_with fail
    refine (block_Field _ _ _ (hT.below (by (repeat' (first | (with_reducible exact Below.refl _ _) | (with_reducible assumption) | (with_reducible refine below_drewN ?_ _) | (with_reducible refine Below.alloc ?_ ?_ _) | (with_reducible refine Below.drew ?_) | (with_reducible refine Below.setCell ?_ ?_ _) | go_size))))).mono ?_; rintro e w1 ⟨rfl, hb⟩
    obtain ⟨l, d, rfl⟩ := more_of hb
    clear hb
    go_wp2_with fail
    refine (kind_Wrap _ _ _).mono ?_; rintro e w' ⟨rfl, rfl⟩
    go_wp2_with fail
    refine bodyPost_ret (by simp [results, Tryd.results17, go_sem, more_cell, more_size, more_frozen]; try rfl) rfl ?_
    exact ⟨by rw [hv.out], by (repeat' (first | (with_reducible exact Below.refl _ _) | (with_reducible assumption) | (with_reducible refine more_below ?_ ?_ _ _) | (with_reducible refine below_drewN ?_ _) | (with_reducible refine Below.alloc ?_ ?_ _) | (with_reducible refine Below.drew ?_) | (with_reducible refine Below.setCell ?_ ?_ _) | (simp only [World.size_alloc, World.size_setCell, World.size_drew, more_size, World.heap_drewN]; omega) | go_size))⟩
set_option maxHeartbeats 4000000 in
theorem block_Set3 (i v x0 x1 x2 x3 x4 x5 x6 x7 x8 x9 : Int) (hi : 0 ≤ i ∧ i < 2) (w : World) (hT : BTab w) : Calls Tryd.prog 17 #[.int .i64 3, .agg #[.int .i64 x0, .int .i64 x1, .int .i64 x2, .int .i64 x3, .int .i64 x4, .int .i64 x5, .int .i64 x6, .int .i64 x7, .int .i64 x8, .int .i64 x9], .int .i64 i, .int .i64 v] w fun e w' => e = .returned (bSetV 3 i v x0 x1 x2 x3 x4 x5 x6 x7 x8 x9) ∧ Below w.heap.size w w' := by
  have mc := @more_cell
  have mf := @more_frozen
  have ms := @more_set
  have md := more_drewN
  have md1 := more_drew
  have mcp := @cell_past
  have hbI : bI 3 = 2 := rfl
  rcases (show i = 0 ∨ i = 1 by omega) with h | h
  · subst h
    have hv := Lib.hid (show bSetV 3 0 v x0 x1 x2 x3 x4 x5 x6 x7 x8 x9 = .agg #[.int .i64 (kWrap (fldT 3 0) v), .int .i64 x1, .int .i64 x2, .int .i64 x3, .int .i64 x4, .int .i64 x5, .int .i64 x6, .int .i64 x7, .int .i64 x8, .int .i64 x9] by simp [bSetV, sj, hbI])
    go_enter Tryd.func17, Tryd.ntmps17
    go_wp2_with fail
    refine (block_Inputs _ _ (hT.below (by (repeat' (first | (with_reducible exact Below.refl _ _) | (with_reducible assumption) | (with_reducible refine below_drewN ?_ _) | (with_reducible refine Below.alloc ?_ ?_ _) | (with_reducible refine Below.drew ?_) | (with_reducible refine Below.setCell ?_ ?_ _) | go_size))))).mono ?_; rintro e w' ⟨rfl, rfl⟩
    go_wp2_with fail
    refine (block_Field _ _ _ (hT.below (by (repeat' (first | (with_reducible exact Below.refl _ _) | (with_reducible assumption) | (with_reducible refine below_drewN ?_ _) | (with_reducible refine Below.alloc ?_ ?_ _) | (with_reducible refine Below.drew ?_) | (with_reducible refine Below.setCell ?_ ?_ _) | go_size))))).mono ?_; rintro e w1 ⟨rfl, hb⟩
    obtain ⟨l, d, rfl⟩ := more_of hb
    clear hb
    go_wp2_with fail
    refine (kind_Wrap _ _ _).mono ?_; rintro e w' ⟨rfl, rfl⟩
    go_wp2_with fail
    refine bodyPost_ret (by simp [results, Tryd.results17, go_sem, more_cell, more_size, more_frozen]; try rfl) rfl ?_
    exact ⟨by rw [hv.out], by (repeat' (first | (with_reducible exact Below.refl _ _) | (with_reducible assumption) | (with_reducible refine more_below ?_ ?_ _ _) | (with_reducible refine below_drewN ?_ _) | (with_reducible refine Below.alloc ?_ ?_ _) | (with_reducible refine Below.drew ?_) | (with_reducible refine Below.setCell ?_ ?_ _) | (simp only [World.size_alloc, World.size_setCell, World.size_drew, more_size, World.heap_drewN]; omega) | go_size))⟩
  · subst h
    have hv := Lib.hid (show bSetV 3 1 v x0 x1 x2 x3 x4 x5 x6 x7 x8 x9 = .agg #[.int .i64 x0, .int .i64 (kWrap (fldT 3 1) v), .int .i64 x2, .int .i64 x3, .int .i64 x4, .int .i64 x5, .int .i64 x6, .int .i64 x7, .int .i64 x8, .int .i64 x9] by simp [bSetV, sj, hbI])
    go_enter Tryd.func17, Tryd.ntmps17
    go_wp2_with fail
    refine (block_Inputs _ _ (hT.below (by (repeat' (first | (with_reducible exact Below.refl _ _) | (with_reducible assumption) | (with_reducible refine below_drewN ?_ _) | (with_reducible refine Below.alloc ?_ ?_ _) | (with_reducible refine Below.drew ?_) | (with_reducible refine Below.setCell ?_ ?_ _) | go_size))))).mono ?_; rintro e w' ⟨rfl, rfl⟩
    go_wp2_with fail
    refine (block_Field _ _ _ (hT.below (by (repeat' (first | (with_reducible exact Below.refl _ _) | (with_reducible assumption) | (with_reducible refine below_drewN ?_ _) | (with_reducible refine Below.alloc ?_ ?_ _) | (with_reducible refine Below.drew ?_) | (with_reducible refine Below.setCell ?_ ?_ _) | go_size))))).mono ?_; rintro e w1 ⟨rfl, hb⟩
    obtain ⟨l, d, rfl⟩ := more_of hb
    clear hb
    go_wp2_with fail
    refine (kind_Wrap _ _ _).mono ?_; rintro e w' ⟨rfl, rfl⟩
    go_wp2_with fail
    refine bodyPost_ret (by simp [results, Tryd.results17, go_sem, more_cell, more_size, more_frozen]; try rfl) rfl ?_
    exact ⟨by rw [hv.out], by (repeat' (first | (with_reducible exact Below.refl _ _) | (with_reducible assumption) | (with_reducible refine more_below ?_ ?_ _ _) | (with_reducible refine below_drewN ?_ _) | (with_reducible refine Below.alloc ?_ ?_ _) | (with_reducible refine Below.drew ?_) | (with_reducible refine Below.setCell ?_ ?_ _) | (simp only [World.size_alloc, World.size_setCell, World.size_drew, more_size, World.heap_drewN]; omega) | go_size))⟩
set_option maxHeartbeats 4000000 in
theorem block_Set4 (i v x0 x1 x2 x3 x4 x5 x6 x7 x8 x9 : Int) (hi : 0 ≤ i ∧ i < 3) (w : World) (hT : BTab w) : Calls Tryd.prog 17 #[.int .i64 4, .agg #[.int .i64 x0, .int .i64 x1, .int .i64 x2, .int .i64 x3, .int .i64 x4, .int .i64 x5, .int .i64 x6, .int .i64 x7, .int .i64 x8, .int .i64 x9], .int .i64 i, .int .i64 v] w fun e w' => e = .returned (bSetV 4 i v x0 x1 x2 x3 x4 x5 x6 x7 x8 x9) ∧ Below w.heap.size w w' := by
  have mc := @more_cell
  have mf := @more_frozen
  have ms := @more_set
  have md := more_drewN
  have md1 := more_drew
  have mcp := @cell_past
  have hbI : bI 4 = 3 := rfl
  rcases (show i = 0 ∨ i = 1 ∨ i = 2 by omega) with h | h | h
  · subst h
    have hv := Lib.hid (show bSetV 4 0 v x0 x1 x2 x3 x4 x5 x6 x7 x8 x9 = .agg #[.int .i64 (kWrap (fldT 4 0) v), .int .i64 x1, .int .i64 x2, .int .i64 x3, .int .i64 x4, .int .i64 x5, .int .i64 x6, .int .i64 x7, .int .i64 x8, .int .i64 x9] by simp [bSetV, sj, hbI])
    go_enter Tryd.func17, Tryd.ntmps17
    go_wp2_with fail
    refine (block_Inputs _ _ (hT.below (by (repeat' (first | (with_reducible exact Below.refl _ _) | (with_reducible assumption) | (with_reducible refine below_drewN ?_ _) | (with_reducible refine Below.alloc ?_ ?_ _) | (with_reducible refine Below.drew ?_) | (with_reducible refine Below.setCell ?_ ?_ _) | go_size))))).mono ?_; rintro e w' ⟨rfl, rfl⟩
    go_wp2_with fail
    refine (block_Field _ _ _ (hT.below (by (repeat' (first | (with_reducible exact Below.refl _ _) | (with_reducible assumption) | (with_reducible refine below_drewN ?_ _) | (with_reducible refine Below.alloc ?_ ?_ _) | (with_reducible refine Below.drew ?_) | (with_reducible refine Below.setCell ?_ ?_ _) | go_size))))).mono ?_; rintro e w1 ⟨rfl, hb⟩
    obtain ⟨l, d, rfl⟩ := more_of hb
    clear hb
    go_wp2_with fail
    refine (kind_Wrap _ _ _).mono ?_; rintro e w' ⟨rfl, rfl⟩
    go_wp2_with fail
    refine bodyPost_ret (by simp [results, Tryd.results17, go_sem, more_cell, more_size, more_frozen]; try rfl) rfl ?_
    exact ⟨by rw [hv.out], by (repeat' (first | (with_reducible exact Below.refl _ _) | (with_reducible assumption) | (with_reducible refine more_below ?_ ?_ _ _) | (with_reducible refine below_drewN ?_ _) | (with_reducible refine Below.alloc ?_ ?_ _) | (with_reducible refine Below.drew ?_) | (with_reducible refine Below.setCell ?_ ?_ _) | (simp only [World.size_alloc, World.size_setCell, World.size_drew, more_size, World.heap_drewN]; omega) | go_size))⟩
  · subst h
    have hv := Lib.hid (show bSetV 4 1 v x0 x1 x2 x3 x4 x5 x6 x7 x8 x9 = .agg #[.int .i64 x0, .int .i64 (kWrap (fldT 4 1) v), .int .i64 x2, .int .i64 x3, .int .i64 x4, .int .i64 x5, .int .i64 x6, .int .i64 x7, .int .i64 x8, .int .i64 x9] by simp [bSetV, sj, hbI])
    go_enter Tryd.func17, Tryd.ntmps17
    go_wp2_with fail
    refine (block_Inputs _ _ (hT.below (by (repeat' (first | (with_reducible exact Below.refl _ _) | (with_reducible assumption) | (with_reducible refine below_drewN ?_ _) | (with_reducible refine Below.alloc ?_ ?_ _) | (with_reducible refine Below.drew ?_) | (with_reducible refine Below.setCell ?_ ?_ _) | go_size))))).mono ?_; rintro e w' ⟨rfl, rfl⟩
    go_wp2_with fail
    refine (block_Field _ _ _ (hT.below (by (repeat' (first | (with_reducible exact Below.refl _ _) | (with_reducible assumption) | (with_reducible refine below_drewN ?_ _) | (with_reducible refine Below.alloc ?_ ?_ _) | (with_reducible refine Below.drew ?_) | (with_reducible refine Below.setCell ?_ ?_ _) | go_size))))).mono ?_; rintro e w1 ⟨rfl, hb⟩
    obtain ⟨l, d, rfl⟩ := more_of hb
    clear hb
    go_wp2_with fail
    refine (kind_Wrap _ _ _).mono ?_; rintro e w' ⟨rfl, rfl⟩
    go_wp2_with fail
    refine bodyPost_ret (by simp [results, Tryd.results17, go_sem, more_cell, more_size, more_frozen]; try rfl) rfl ?_
    exact ⟨by rw [hv.out], by (repeat' (first | (with_reducible exact Below.refl _ _) | (with_reducible assumption) | (with_reducible refine more_below ?_ ?_ _ _) | (with_reducible refine below_drewN ?_ _) | (with_reducible refine Below.alloc ?_ ?_ _) | (with_reducible refine Below.drew ?_) | (with_reducible refine Below.setCell ?_ ?_ _) | (simp only [World.size_alloc, World.size_setCell, World.size_drew, more_size, World.heap_drewN]; omega) | go_size))⟩
  · subst h
    have hv := Lib.hid (show bSetV 4 2 v x0 x1 x2 x3 x4 x5 x6 x7 x8 x9 = .agg #[.int .i64 x0, .int .i64 x1, .int .i64 (kWrap (fldT 4 2) v), .int .i64 x3, .int .i64 x4, .int .i64 x5, .int .i64 x6, .int .i64 x7, .int .i64 x8, .int .i64 x9] by simp [bSetV, sj, hbI])
    go_enter Tryd.func17, Tryd.ntmps17
    go_wp2_with fail
    refine (block_Inputs _ _ (hT.below (by (repeat' (first | (with_reducible exact Below.refl _ _) | (with_reducible assumption) | (with_reducible refine below_drewN ?_ _) | (with_reducible refine Below.alloc ?_ ?_ _) | (with_reducible refine Below.drew ?_) | (with_reducible refine Below.setCell ?_ ?_ _) | go_size))))).mono ?_; rintro e w' ⟨rfl, rfl⟩
    go_wp2_with fail
    refine (block_Field _ _ _ (hT.below (by (repeat' (first | (with_reducible exact Below.refl _ _) | (with_reducible assumption) | (with_reducible refine below_drewN ?_ _) | (with_reducible refine Below.alloc ?_ ?_ _) | (with_reducible refine Below.drew ?_) | (with_reducible refine Below.setCell ?_ ?_ _) | go_size))))).mono ?_; rintro e w1 ⟨rfl, hb⟩
    obtain ⟨l, d, rfl⟩ := more_of hb
    clear hb
    go_wp2_with fail
    refine (kind_Wrap _ _ _).mono ?_; rintro e w' ⟨rfl, rfl⟩
    go_wp2_with fail
    refine bodyPost_ret (by simp [results, Tryd.results17, go_sem, more_cell, more_size, more_frozen]; try rfl) rfl ?_
    exact ⟨by rw [hv.out], by (repeat' (first | (with_reducible exact Below.refl _ _) | (with_reducible assumption) | (with_reducible refine more_below ?_ ?_ _ _) | (with_reducible refine below_drewN ?_ _) | (with_reducible refine Below.alloc ?_ ?_ _) | (with_reducible refine Below.drew ?_) | (with_reducible refine Below.setCell ?_ ?_ _) | (simp only [World.size_alloc, World.size_setCell, World.size_drew, more_size, World.heap_drewN]; omega) | go_size))⟩
set_option maxHeartbeats 4000000 in
theorem block_Set5 (i v x0 x1 x2 x3 x4 x5 x6 x7 x8 x9 : Int) (hi : 0 ≤ i ∧ i < 3) (w : World) (hT : BTab w) : Calls Tryd.prog 17 #[.int .i64 5, .agg #[.int .i64 x0, .int .i64 x1, .int .i64 x2, .int .i64 x3, .int .i64 x4, .int .i64 x5, .int .i64 x6, .int .i64 x7, .int .i64 x8, .int .i64 x9], .int .i64 i, .int .i64 v] w fun e w' => e = .returned (bSetV 5 i v x0 x1 x2 x3 x4 x5 x6 x7 x8 x9) ∧ Below w.heap.size w w' := by
  have mc := @more_cell
  have mf := @more_frozen
  have ms := @more_set
  have md := more_drewN
  have md1 := more_drew
  have mcp := @cell_past
  have hbI : bI 5 = 3 := rfl
  rcases (show i = 0 ∨ i = 1 ∨ i = 2 by omega) with h | h | h
  · subst h
    have hv := Lib.hid (show bSetV 5 0 v x0 x1 x2 x3 x4 x5 x6 x7 x8 x9 = .agg #[.int .i64 (kWrap (fldT 5 0) v), .int .i64 x1, .int .i64 x2, .int .i64 x3, .int .i64 x4, .int .i64 x5, .int .i64 x6, .int .i64 x7, .int .i64 x8, .int .i64 x9] by simp [bSetV, sj, hbI])
    go_enter Tryd.func17, Tryd.ntmps17
    go_wp2_with fail
    refine (block_Inputs _ _ (hT.below (by (repeat' (first | (with_reducible exact Below.refl _ _) | (with_reducible assumption) | (with_reducible refine below_drewN ?_ _) | (with_reducible refine Below.alloc ?_ ?_ _) | (with_reducible refine Below.drew ?_) | (with_reducible refine Below.setCell ?_ ?_ _) | go_size))))).mono ?_; rintro e w' ⟨rfl, rfl⟩
    go_wp2_with fail
    refine (block_Field _ _ _ (hT.below (by (repeat' (first | (with_reducible exact Below.refl _ _) | (with_reducible assumption) | (with_reducible refine below_drewN ?_ _) | (with_reducible refine Below.alloc ?_ ?_ _) | (with_reducible refine Below.drew ?_) | (with_reducible refine Below.setCell ?_ ?_ _) | go_size))))).mono ?_; rintro e w1 ⟨rfl, hb⟩
    obtain ⟨l, d, rfl⟩ := more_of hb
    clear hb
    go_wp2_with fail
    refine (kind_Wrap _ _ _).mono ?_; rintro e w' ⟨rfl, rfl⟩
    go_wp2_with fail
    refine bodyPost_ret (by simp [results, Tryd.results17, go_sem, more_cell, more_size, more_frozen]; try rfl) rfl ?_
    exact ⟨by rw [hv.out], by (repeat' (first | (with_reducible exact Below.refl _ _) | (with_reducible assumption) | (with_reducible refine more_below ?_ ?_ _ _) | (with_reducible refine below_drewN ?_ _) | (with_reducible refine Below.alloc ?_ ?_ _) | (with_reducible refine Below.drew ?_) | (with_reducible refine Below.setCell ?_ ?_ _) | (simp only [World.size_alloc, World.size_setCell, World.size_drew, more_size, World.heap_drewN]; omega) | go_size))⟩
  · subst h
    have hv := Lib.hid (show bSetV 5 1 v x0 x1 x2 x3 x4 x5 x6 x7 x8 x9 = .agg #[.int .i64 x0, .int .i64 (kWrap (fldT 5 1) v), .int .i64 x2, .int .i64 x3, .int .i64 x4, .int .i64 x5, .int .i64 x6, .int .i64 x7, .int .i64 x8, .int .i64 x9] by simp [bSetV, sj, hbI])
    go_enter Tryd.func17, Tryd.ntmps17
    go_wp2_with fail
    refine (block_Inputs _ _ (hT.below (by (repeat' (first | (with_reducible exact Below.refl _ _) | (with_reducible assumption) | (with_reducible refine below_drewN ?_ _) | (with_reducible refine Below.alloc ?_ ?_ _) | (with_reducible refine Below.drew ?_) | (with_reducible refine Below.setCell ?_ ?_ _) | go_size))))).mono ?_; rintro e w' ⟨rfl, rfl⟩
    go_wp2_with fail
    refine (block_Field _ _ _ (hT.below (by (repeat' (first | (with_reducible exact Below.refl _ _) | (with_reducible assumption) | (with_reducible refine below_drewN ?_ _) | (with_reducible refine Below.alloc ?_ ?_ _) | (with_reducible refine Below.drew ?_) | (with_reducible refine Below.setCell ?_ ?_ _) | go_size))))).mono ?_; rintro e w1 ⟨rfl, hb⟩
    obtain ⟨l, d, rfl⟩ := more_of hb
    clear hb
    go_wp2_with fail
    refine (kind_Wrap _ _ _).mono ?_; rintro e w' ⟨rfl, rfl⟩
    go_wp2_with fail
    refine bodyPost_ret (by simp [results, Tryd.results17, go_sem, more_cell, more_size, more_frozen]; try rfl) rfl ?_
    exact ⟨by rw [hv.out], by (repeat' (first | (with_reducible exact Below.refl _ _) | (with_reducible assumption) | (with_reducible refine more_below ?_ ?_ _ _) | (with_reducible refine below_drewN ?_ _) | (with_reducible refine Below.alloc ?_ ?_ _) | (with_reducible refine Below.drew ?_) | (with_reducible refine Below.setCell ?_ ?_ _) | (simp only [World.size_alloc, World.size_setCell, World.size_drew, more_size, World.heap_drewN]; omega) | go_size))⟩
  · subst h
    have hv := Lib.hid (show bSetV 5 2 v x0 x1 x2 x3 x4 x5 x6 x7 x8 x9 = .agg #[.int .i64 x0, .int .i64 x1, .int .i64 (kWrap (fldT 5 2) v), .int .i64 x3, .int .i64 x4, .int .i64 x5, .int .i64 x6, .int .i64 x7, .int .i64 x8, .int .i64 x9] by simp [bSetV, sj, hbI])
    go_enter Tryd.func17, Tryd.ntmps17
    go_wp2_with fail
    refine (block_Inputs _ _ (hT.below (by (repeat' (first | (with_reducible exact Below.refl _ _) | (with_reducible assumption) | (with_reducible refine below_drewN ?_ _) | (with_reducible refine Below.alloc ?_ ?_ _) | (with_reducible refine Below.drew ?_) | (with_reducible refine Below.setCell ?_ ?_ _) | go_size))))).mono ?_; rintro e w' ⟨rfl, rfl⟩
    go_wp2_with fail
    refine (block_Field _ _ _ (hT.below (by (repeat' (first | (with_reducible exact Below.refl _ _) | (with_reducible assumption) | (with_reducible refine below_drewN ?_ _) | (with_reducible refine Below.alloc ?_ ?_ _) | (with_reducible refine Below.drew ?_) | (with_reducible refine Below.setCell ?_ ?_ _) | go_size))))).mono ?_; rintro e w1 ⟨rfl, hb⟩
    obtain ⟨l, d, rfl⟩ := more_of hb
    clear hb
    go_wp2_with fail
    refine (kind_Wrap _ _ _).mono ?_; rintro e w' ⟨rfl, rfl⟩
    go_wp2_with fail
    refine bodyPost_ret (by simp [results, Tryd.results17, go_sem, more_cell, more_size, more_frozen]; try rfl) rfl ?_
    exact ⟨by rw [hv.out], by (repeat' (first | (with_reducible exact Below.refl _ _) | (with_reducible assumption) | (with_reducible refine more_below ?_ ?_ _ _) | (with_reducible refine below_drewN ?_ _) | (with_reducible refine Below.alloc ?_ ?_ _) | (with_reducible refine Below.drew ?_) | (with_reducible refine Below.setCell ?_ ?_ _) | (simp only [World.size_alloc, World.size_setCell, World.size_drew, more_size, World.heap_drewN]; omega) | go_size))⟩
set_option maxHeartbeats 4000000 in
theorem block_Set6 (i v x0 x1 x2 x3 x4 x5 x6 x7 x8 x9 : Int) (hi : 0 ≤ i ∧ i < 5) (w : World) (hT : BTab w) : Calls Tryd.prog 17 #[.int .i64 6, .agg #[.int .i64 x0, .int .i64 x1, .int .i64 x2, .int .i64 x3, .int .i64 x4, .int .i64 x5, .int .i64 x6, .int .i64 x7, .int .i64 x8, .int .i64 x9], .int .i64 i, .int .i64 v] w fun e w' => e = .returned (bSetV 6 i v x0 x1 x2 x3 x4 x5 x6 x7 x8 x9) ∧ Below w.heap.size w w' := by
  have mc := @more_cell
  have mf := @more_frozen
  have ms := @more_set
  have md := more_drewN
  have md1 := more_drew
  have mcp := @cell_past
  have hbI : bI 6 = 5 := rfl
  rcases (show i = 0 ∨ i = 1 ∨ i = 2 ∨ i = 3 ∨ i = 4 by omega) with h | h | h | h | h
  · subst h
    have hv := Lib.hid (show bSetV 6 0 v x0 x1 x2 x3 x4 x5 x6 x7 x8 x9 = .agg #[.int .i64 (kWrap (fldT 6 0) v), .int .i64 x1, .int .i64 x2, .int .i64 x3, .int .i64 x4, .int .i64 x5, .int .i64 x6, .int .i64 x7, .int .i64 x8, .int .i64 x9] by simp [bSetV, sj, hbI])
    go_enter Tryd.func17, Tryd.ntmps17
    go_wp2_with fail
    refine (block_Inputs _ _ (hT.below (by (repeat' (first | (with_reducible exact Below.refl _ _) | (with_reducible assumption) | (with_reducible refine below_drewN ?_ _) | (with_reducible refine Below.alloc ?_ ?_ _) | (with_reducible refine Below.drew ?_) | (with_reducible refine Below.setCell ?_ ?_ _) | go_size))))).mono ?_; rintro e w' ⟨rfl, rfl⟩
    go_wp2_with fail
    refine (block_Field _ _ _ (hT.below (by (repeat' (first | (with_reducible exact Below.refl _ _) | (with_reducible assumption) | (with_reducible refine below_drewN ?_ _) | (with_reducible refine Below.alloc ?_ ?_ _) | (with_reducible refine Below.drew ?_) | (with_reducible refine Below.setCell ?_ ?_ _) | go_size))))).mono ?_; rintro e w1 ⟨rfl, hb⟩
    obtain ⟨l, d, rfl⟩ := more_of hb
    clear hb
    go_wp2_with fail
    refine (kind_Wrap _ _ _).mono ?_; rintro e w' ⟨rfl, rfl⟩
    go_wp2_with fail
    refine bodyPost_ret (by simp [results, Tryd.results17, go_sem, more_cell, more_size, more_frozen]; try rfl) rfl ?_
    exact ⟨by rw [hv.out], by (repeat' (first | (with_reducible exact Below.refl _ _) | (with_reducible assumption) | (with_reducible refine more_below ?_ ?_ _ _) | (with_reducible refine below_drewN ?_ _) | (with_reducible refine Below.alloc ?_ ?_ _) | (with_reducible refine Below.drew ?_) | (with_reducible refine Below.setCell ?_ ?_ _) | (simp only [World.size_alloc, World.size_setCell, World.size_drew, more_size, World.heap_drewN]; omega) | go_size))⟩
  · subst h
    have hv := Lib.hid (show bSetV 6 1 v x0 x1 x2 x3 x4 x5 x6 x7 x8 x9 = .agg #[.int .i64 x0, .int .i64 (kWrap (fldT 6 1) v), .int .i64 x2, .int .i64 x3, .int .i64 x4, .int .i64 x5, .int .i64 x6, .int .i64 x7, .int .i64 x8, .int .i64 x9] by simp [bSetV, sj, hbI])
    go_enter Tryd.func17, Tryd.ntmps17
    go_wp2_with fail
    refine (block_Inputs _ _ (hT.below (by (repeat' (first | (with_reducible exact Below.refl _ _) | (with_reducible assumption) | (with_reducible refine below_drewN ?_ _) | (with_reducible refine Below.alloc ?_ ?_ _) | (with_reducible refine Below.drew ?_) | (with_reducible refine Below.setCell ?_ ?_ _) | go_size))))).mono ?_; rintro e w' ⟨rfl, rfl⟩
    go_wp2_with fail
    refine (block_Field _ _ _ (hT.below (by (repeat' (first | (with_reducible exact Below.refl _ _) | (with_reducible assumption) | (with_reducible refine below_drewN ?_ _) | (with_reducible refine Below.alloc ?_ ?_ _) | (with_reducible refine Below.drew ?_) | (with_reducible refine Below.setCell ?_ ?_ _) | go_size))))).mono ?_; rintro e w1 ⟨rfl, hb⟩
    obtain ⟨l, d, rfl⟩ := more_of hb
    clear hb
    go_wp2_with fail
    refine (kind_Wrap _ _ _).mono ?_; rintro e w' ⟨rfl, rfl⟩
    go_wp2_with fail
    refine bodyPost_ret (by simp [results, Tryd.results17, go_sem, more_cell, more_size, more_frozen]; try rfl) rfl ?_
    exact ⟨by rw [hv.out], by (repeat' (first | (with_reducible exact Below.refl _ _) | (with_reducible assumption) | (with_reducible refine more_below ?_ ?_ _ _) | (with_reducible refine below_drewN ?_ _) | (with_reducible refine Below.alloc ?_ ?_ _) | (with_reducible refine Below.drew ?_) | (with_reducible refine Below.setCell ?_ ?_ _) | (simp only [World.size_alloc, World.size_setCell, World.size_drew, more_size, World.heap_drewN]; omega) | go_size))⟩
  · subst h
    have hv := Lib.hid (show bSetV 6 2 v x0 x1 x2 x3 x4 x5 x6 x7 x8 x9 = .agg #[.int .i64 x0, .int .i64 x1, .int .i64 (kWrap (fldT 6 2) v), .int .i64 x3, .int .i64 x4, .int .i64 x5, .int .i64 x6, .int .i64 x7, .int .i64 x8, .int .i64 x9] by simp [bSetV, sj, hbI])
    go_enter Tryd.func17, Tryd.ntmps17
    go_wp2_with fail
    refine (block_Inputs _ _ (hT.below (by (repeat' (first | (with_reducible exact Below.refl _ _) | (with_reducible assumption) | (with_reducible refine below_drewN ?_ _) | (with_reducible refine Below.alloc ?_ ?_ _) | (with_reducible refine Below.drew ?_) | (with_reducible refine Below.setCell ?_ ?_ _) | go_size))))).mono ?_; rintro e w' ⟨rfl, rfl⟩
    go_wp2_with fail
    refine (block_Field _ _ _ (hT.below (by (repeat' (first | (with_reducible exact Below.refl _ _) | (with_reducible assumption) | (with_reducible refine below_drewN ?_ _) | (with_reducible refine Below.alloc ?_ ?_ _) | (with_reducible refine Below.drew ?_) | (with_reducible refine Below.setCell ?_ ?_ _) | go_size))))).mono ?_; rintro e w1 ⟨rfl, hb⟩
    obtain ⟨l, d, rfl⟩ := more_of hb
    clear hb
    go_wp2_with fail
    refine (kind_Wrap _ _ _).mono ?_; rintro e w' ⟨rfl, rfl⟩
    go_wp2_with fail
    refine bodyPost_ret (by simp [results, Tryd.results17, go_sem, more_cell, more_size, more_frozen]; try rfl) rfl ?_
    exact ⟨by rw [hv.out], by (repeat' (first | (with_reducible exact Below.refl _ _) | (with_reducible assumption) | (with_reducible refine more_below ?_ ?_ _ _) | (with_reducible refine below_drewN ?_ _) | (with_reducible refine Below.alloc ?_ ?_ _) | (with_reducible refine Below.drew ?_) | (with_reducible refine Below.setCell ?_ ?_ _) | (simp only [World.size_alloc, World.size_setCell, World.size_drew, more_size, World.heap_drewN]; omega) | go_size))⟩
  · subst h
    have hv := Lib.hid (show bSetV 6 3 v x0 x1 x2 x3 x4 x5 x6 x7 x8 x9 = .agg #[.int .i64 x0, .int .i64 x1, .int .i64 x2, .int .i64 (kWrap (fldT 6 3) v), .int .i64 x4, .int .i64 x5, .int .i64 x6, .int .i64 x7, .int .i64 x8, .int .i64 x9] by simp [bSetV, sj, hbI])
    go_enter Tryd.func17, Tryd.ntmps17
    go_wp2_with fail
    refine (block_Inputs _ _ (hT.below (by (repeat' (first | (with_reducible exact Below.refl _ _) | (with_reducible assumption) | (with_reducible refine below_drewN ?_ _) | (with_reducible refine Below.alloc ?_ ?_ _) | (with_reducible refine Below.drew ?_) | (with_reducible refine Below.setCell ?_ ?_ _) | go_size))))).mono ?_; rintro e w' ⟨rfl, rfl⟩
    go_wp2_with fail
    refine (block_Field _ _ _ (hT.below (by (repeat' (first | (with_reducible exact Below.refl _ _) | (with_reducible assumption) | (with_reducible refine below_drewN ?_ _) | (with_reducible refine Below.alloc ?_ ?_ _) | (with_reducible refine Below.drew ?_) | (with_reducible refine Below.setCell ?_ ?_ _) | go_size))))).mono ?_; rintro e w1 ⟨rfl, hb⟩
    obtain ⟨l, d, rfl⟩ := more_of hb
    clear hb
    go_wp2_with fail
    refine (kind_Wrap _ _ _).mono ?_; rintro e w' ⟨rfl, rfl⟩
    go_wp2_with fail
    refine bodyPost_ret (by simp [results, Tryd.results17, go_sem, more_cell, more_size, more_frozen]; try rfl) rfl ?_
    exact ⟨by rw [hv.out], by (repeat' (first | (with_reducible exact Below.refl _ _) | (with_reducible assumption) | (with_reducible refine more_below ?_ ?_ _ _) | (with_reducible refine below_drewN ?_ _) | (with_reducible refine Below.alloc ?_ ?_ _) | (with_reducible refine Below.drew ?_) | (with_reducible refine Below.setCell ?_ ?_ _) | (simp only [World.size_alloc, World.size_setCell, World.size_drew, more_size, World.heap_drewN]; omega) | go_size))⟩
  · subst h
    have hv := Lib.hid (show bSetV 6 4 v x0 x1 x2 x3 x4 x5 x6 x7 x8 x9 = .agg #[.int .i64 x0, .int .i64 x1, .int .i64 x2, .int .i64 x3, .int .i64 (kWrap (fldT 6 4) v), .int .i64 x5, .int .i64 x6, .int .i64 x7, .int .i64 x8, .int .i64 x9] by simp [bSetV, sj, hbI])
    go_enter Tryd.func17, Tryd.ntmps17
    go_wp2_with fail
    refine (block_Inputs _ _ (hT.below (by (repeat' (first | (with_reducible exact Below.refl _ _) | (with_reducible assumption) | (with_reducible refine below_drewN ?_ _) | (with_reducible refine Below.alloc ?_ ?_ _) | (with_reducible refine Below.drew ?_) | (with_reducible refine Below.setCell ?_ ?_ _) | go_size))))).mono ?_; rintro e w' ⟨rfl, rfl⟩
    go_wp2_with fail
    refine (block_Field _ _ _ (hT.below (by (repeat' (first | (with_reducible exact Below.refl _ _) | (with_reducible assumption) | (with_reducible refine below_drewN ?_ _) | (with_reducible refine Below.alloc ?_ ?_ _) | (with_reducible refine Below.drew ?_) | (with_reducible refine Below.setCell ?_ ?_ _) | go_size))))).mono ?_; rintro e w1 ⟨rfl, hb⟩
    obtain ⟨l, d, rfl⟩ := more_of hb
    clear hb
    go_wp2_with fail
    refine (kind_Wrap _ _ _).mono ?_; rintro e w' ⟨rfl, rfl⟩
    go_wp2_with fail
    refine bodyPost_ret (by simp [results, Tryd.results17, go_sem, more_cell, more_size, more_frozen]; try rfl) rfl ?_
    exact ⟨by rw [hv.out], by (repeat' (first | (with_reducible exact Below.refl _ _) | (with_reducible assumption) | (with_reducible refine more_below ?_ ?_ _ _) | (with_reducible refine below_drewN ?_ _) | (with_reducible refine Below.alloc ?_ ?_ _) | (with_reducible refine Below.drew ?_) | (with_reducible refine Below.setCell ?_ ?_ _) | (simp only [World.size_alloc, World.size_setCell, World.size_drew, more_size, World.heap_drewN]; omega) | go_size))⟩
set_option maxHeartbeats 4000000 in
theorem block_Set7 (i v x0 x1 x2 x3 x4 x5 x6 x7 x8 x9 : Int) (hi : 0 ≤ i ∧ i < 1) (w : World) (hT : BTab w) : Calls Tryd.prog 17 #[.int .i64 7, .agg #[.int .i64 x0, .int .i64 x1, .int .i64 x2, .int .i64 x3, .int .i64 x4, .int .i64 x5, .int .i64 x6, .int .i64 x7, .int .i64 x8, .int .i64 x9], .int .i64 i, .int .i64 v] w fun e w' => e = .returned (bSetV 7 i v x0 x1 x2 x3 x4 x5 x6 x7 x8 x9) ∧ Below w.heap.size w w' := by
  have mc := @more_cell
  have mf := @more_frozen
  have ms := @more_set
  have md := more_drewN
  have md1 := more_drew
  have mcp := @cell_past
  have hbI : bI 7 = 1 := rfl
  rcases (show i = 0 by omega) with h
  · subst h
    have hv := Lib.hid (show bSetV 7 0 v x0 x1 x2 x3 x4 x5 x6 x7 x8 x9 = .agg #[.int .i64 (kWrap (fldT 7 0) v), .int .i64 x1, .int .i64 x2, .int .i64 x3, .int .i64 x4, .int .i64 x5, .int .i64 x6, .int .i64 x7, .int .i64 x8, .int .i64 x9] by simp [bSetV, sj, hbI])
    go_enter Tryd.func17, Tryd.ntmps17
    go_wp2_with fail
    refine (block_Inputs _ _ (hT.below (by (repeat' (first | (with_reducible exact Below.refl _ _) | (with_reducible assumption) | (with_reducible refine below_drewN ?_ _) | (with_reducible refine Below.alloc ?_ ?_ _) | (with_reducible refine Below.drew ?_) | (with_reducible refine Below.setCell ?_ ?_ _) | go_size))))).mono ?_; rintro e w' ⟨rfl, rfl⟩
    go_wp2_with fail
    refine (block_Field _ _ _ (hT.below (by (repeat' (first | (with_reducible exact Below.refl _ _) | (with_reducible assumption) | (with_reducible refine below_drewN ?_ _) | (with_reducible refine Below.alloc ?_ ?_ _) | (with_reducible refine Below.drew ?_) | (with_reducible refine Below.setCell ?_ ?_ _) | go_size))))).mono ?_; rintro e w1 ⟨rfl, hb⟩
    obtain ⟨l, d, rfl⟩ := more_of hb
    clear hb
    go_wp2_with fail
    refine (kind_Wrap _ _ _).mono ?_; rintro e w' ⟨rfl, rfl⟩
    go_wp2_with fail
    refine bodyPost_ret (by simp [results, Tryd.results17, go_sem, more_cell, more_size, more_frozen]; try rfl) rfl ?_
    exact ⟨by rw [hv.out], by (repeat' (first | (with_reducible exact Below.refl _ _) | (with_reducible assumption) | (with_reducible refine more_below ?_ ?_ _ _) | (with_reducible refine below_drewN ?_ _) | (with_reducible refine Below.alloc ?_ ?_ _) | (with_reducible refine Below.drew ?_) | (with_reducible refine Below.setCell ?_ ?_ _) | (simp only [World.size_alloc, World.size_setCell, World.size_drew, more_size, World.heap_drewN]; omega) | go_size))⟩
set_option maxHeartbeats 4000000 in
theorem block_Set8 (i v x0 x1 x2 x3 x4 x5 x6 x7 x8 x9 : Int) (hi : 0 ≤ i ∧ i < 1) (w : World) (hT : BTab w) : Calls Tryd.prog 17 #[.int .i64 8, .agg #[.int .i64 x0, .int .i64 x1, .int .i64 x2, .int .i64 x3, .int .i64 x4, .int .i64 x5, .int .i64 x6, .int .i64 x7, .int .i64 x8, .int .i64 x9], .int .i64 i, .int .i64 v] w fun e w' => e = .returned (bSetV 8 i v x0 x1 x2 x3 x4 x5 x6 x7 x8 x9) ∧ Below w.heap.size w w' := by
  have mc := @more_cell
  have mf := @more_frozen
  have ms := @more_set
  have md := more_drewN
  have md1 := more_drew
  have mcp := @cell_past
  have hbI : bI 8 = 1 := rfl
  rcases (show i = 0 by omega) with h
  · subst h
    have hv := Lib.hid (show bSetV 8 0 v x0 x1 x2 x3 x4 x5 x6 x7 x8 x9 = .agg #[.int .i64 (kWrap (fldT 8 0) v), .int .i64 x1, .int .i64 x2, .int .i64 x3, .int .i64 x4, .int .i64 x5, .int .i64 x6, .int .i64 x7, .int .i64 x8, .int .i64 x9] by simp [bSetV, sj, hbI])
    go_enter Tryd.func17, Tryd.ntmps17
    go_wp2_with fail
    refine (block_Inputs _ _ (hT.below (by (repeat' (first | (with_reducible exact Below.refl _ _) | (with_reducible assumption) | (with_reducible refine below_drewN ?_ _) | (with_reducible refine Below.alloc ?_ ?_ _) | (with_reducible refine Below.drew ?_) | (with_reducible refine Below.setCell ?_ ?_ _) | go_size))))).mono ?_; rintro e w' ⟨rfl, rfl⟩
    go_wp2_with fail
    refine (block_Field _ _ _ (hT.below (by (repeat' (first | (with_reducible exact Below.refl _ _) | (with_reducible assumption) | (with_reducible refine below_drewN ?_ _) | (with_reducible refine Below.alloc ?_ ?_ _) | (with_reducible refine Below.drew ?_) | (with_reducible refine Below.setCell ?_ ?_ _) | go_size))))).mono ?_; rintro e w1 ⟨rfl, hb⟩
    obtain ⟨l, d, rfl⟩ := more_of hb
    clear hb
    go_wp2_with fail
    refine (kind_Wrap _ _ _).mono ?_; rintro e w' ⟨rfl, rfl⟩
    go_wp2_with fail
    refine bodyPost_ret (by simp [results, Tryd.results17, go_sem, more_cell, more_size, more_frozen]; try rfl) rfl ?_
    exact ⟨by rw [hv.out], by (repeat' (first | (with_reducible exact Below.refl _ _) | (with_reducible assumption) | (with_reducible refine more_below ?_ ?_ _ _) | (with_reducible refine below_drewN ?_ _) | (with_reducible refine Below.alloc ?_ ?_ _) | (with_reducible refine Below.drew ?_) | (with_reducible refine Below.setCell ?_ ?_ _) | (simp only [World.size_alloc, World.size_setCell, World.size_drew, more_size, World.heap_drewN]; omega) | go_size))⟩
set_option maxHeartbeats 4000000 in
theorem block_Set (k i v x0 x1 x2 x3 x4 x5 x6 x7 x8 x9 : Int) (w : World) (hT : BTab w) : Calls Tryd.prog 17 #[.int .i64 k, .agg #[.int .i64 x0, .int .i64 x1, .int .i64 x2, .int .i64 x3, .int .i64 x4, .int .i64 x5, .int .i64 x6, .int .i64 x7, .int .i64 x8, .int .i64 x9], .int .i64 i, .int .i64 v] w fun e w' => e = .returned (bSetV k i v x0 x1 x2 x3 x4 x5 x6 x7 x8 x9) ∧ Below w.heap.size w w' := by
  have mc := @more_cell
  have mf := @more_frozen
  have ms := @more_set
  have md := more_drewN
  have md1 := more_drew
  have mcp := @cell_past
  by_cases hi : 0 ≤ i ∧ i < bI k
  · have hk := kind_of_in hi
    rcases k8 hk with h | h | h | h | h | h | h | h
    · subst h; exact block_Set1 i v x0 x1 x2 x3 x4 x5 x6 x7 x8 x9 hi w hT
    · subst h; exact block_Set2 i v x0 x1 x2 x3 x4 x5 x6 x7 x8 x9 hi w hT
    · subst h; exact block_Set3 i v x0 x1 x2 x3 x4 x5 x6 x7 x8 x9 hi w hT
    · subst h; exact block_Set4 i v x0 x1 x2 x3 x4 x5 x6 x7 x8 x9 hi w hT
    · subst h; exact block_Set5 i v x0 x1 x2 x3 x4 x5 x6 x7 x8 x9 hi w hT
    · subst h; exact block_Set6 i v x0 x1 x2 x3 x4 x5 x6 x7 x8 x9 hi w hT
    · subst h; exact block_Set7 i v x0 x1 x2 x3 x4 x5 x6 x7 x8 x9 hi w hT
    · subst h; exact block_Set8 i v x0 x1 x2 x3 x4 x5 x6 x7 x8 x9 hi w hT
  · have hv := Lib.hid (bSet_no hi v x0 x1 x2 x3 x4 x5 x6 x7 x8 x9)
    have hI := @block_Inputs k
    generalize bI k = n at *
    by_cases h0 : i < 0
    · go_enter Tryd.func17, Tryd.ntmps17
      go_wp2_with fail
      refine bodyPost_ret (by simp [results, Tryd.results17, go_sem, more_cell, more_size, more_frozen]; try rfl) rfl ?_
      exact ⟨by rw [hv.out], by (repeat' (first | (with_reducible exact Below.refl _ _) | (with_reducible assumption) | (with_reducible refine more_below ?_ ?_ _ _) | (with_reducible refine below_drewN ?_ _) | (with_reducible refine Below.alloc ?_ ?_ _) | (with_reducible refine Below.drew ?_) | (with_reducible refine Below.setCell ?_ ?_ _) | (simp only [World.size_alloc, World.size_setCell, World.size_drew, more_size, World.heap_drewN]; omega) | go_size))⟩
    · have hge : n ≤ i := by omega
      go_enter Tryd.func17, Tryd.ntmps17
      go_wp2_with fail
      refine (hI _ (hT.below (by (repeat' (first | (with_reducible exact Below.refl _ _) | (with_reducible assumption) | (with_reducible refine below_drewN ?_ _) | (with_reducible refine Below.alloc ?_ ?_ _) | (with_reducible refine Below.drew ?_) | (with_reducible refine Below.setCell ?_ ?_ _) | go_size))))).mono ?_; rintro e w' ⟨rfl, rfl⟩
      go_wp2_with fail
      refine bodyPost_ret (by simp [results, Tryd.results17, go_sem, more_cell, more_size, more_frozen]; try rfl) rfl ?_
      exact ⟨by rw [hv.out], by (repeat' (first | (with_reducible exact Below.refl _ _) | (with_reducible assumption) | (with_reducible refine more_below ?_ ?_ _ _) | (with_reducible refine below_drewN ?_ _) | (with_reducible refine Below.alloc ?_ ?_ _) | (with_reducible refine Below.drew ?_) | (with_reducible refine Below.setCell ?_ ?_ _) | (simp only [World.size_alloc, World.size_setCell, World.size_drew, more_size, World.heap_drewN]; omega) | go_size))⟩
set_option maxHeartbeats 4000000 in
theorem ref11_Set1 (i v x0 x1 x2 x3 x4 x5 x6 x7 x8 x9 : Int) (hi : 0 ≤ i ∧ i < 2) (w : World) (hvr : -9223372036854775808 ≤ v ∧ v ≤ 9223372036854775807) : Calls Tryd.prog 18 #[.int .i64 1, .agg #[.int .i64 x0, .int .i64 x1, .int .i64 x2, .int .i64 x3, .int .i64 x4, .int .i64 x5, .int .i64 x6, .int .i64 x7, .int .i64 x8, .int .i64 x9], .int .i64 i, .int .i64 v] w fun e w' => e = .returned (bSetV 1 i v x0 x1 x2 x3 x4 x5 x6 x7 x8 x9) ∧ Below w.heap.size w w' := by
  have mc := @more_cell
  have mf := @more_frozen
  have ms := @more_set
  have md := more_drewN
  have md1 := more_drew
  have mcp := @cell_past
  have hbI : bI 1 = 2 := rfl
  rcases (show i = 0 ∨ i = 1 by omega) with h | h
  · subst h
    have hv := Lib.hid (show bSetV 1 0 v x0 x1 x2 x3 x4 x5 x6 x7 x8 x9 = .agg #[.int .i64 (kWrap (fldT 1 0) v), .int .i64 x1, .int .i64 x2, .int .i64 x3, .int .i64 x4, .int .i64 x5, .int .i64 x6, .int .i64 x7, .int .i64 x8, .int .i64 x9] by simp [bSetV, sj, hbI])
    go_enter Tryd.func18, Tryd.ntmps18
    go_wp2_with fail
    refine (ref11_Fields _ (by omega) _).mono ?_; rintro e w' ⟨rfl, rfl⟩
    have ht : tyV 1 = #[.int .i64 1, .int .i64 6, .int .i64 1, .int .i64 6] := rfl
    have ht2 : fldT 1 0 = 1 := rfl
    rw [ht]
    go_wp2_with fail
    refine (ref01_Wrap _ _ hvr _).mono ?_; rintro e w' ⟨rfl, rfl⟩
    go_wp2_with fail
    refine bodyPost_ret (by simp [results, Tryd.results18, go_sem, more_cell, more_size, more_frozen]; try rfl) rfl ?_
    exact ⟨by rw [hv.out]; rw [ht2], by (repeat' (first | (with_reducible exact Below.refl _ _) | (with_reducible assumption) | (with_reducible refine more_below ?_ ?_ _ _) | (with_reducible refine below_drewN ?_ _) | (with_reducible refine Below.alloc ?_ ?_ _) | (with_reducible refine Below.drew ?_) | (with_reducible refine Below.setCell ?_ ?_ _) | (simp only [World.size_alloc, World.size_setCell, World.size_drew, more_size, World.heap_drewN]; omega) | go_size))⟩
  · subst h
    have hv := Lib.hid (show bSetV 1 1 v x0 x1 x2 x3 x4 x5 x6 x7 x8 x9 = .agg #[.int .i64 x0, .int .i64 (kWrap (fldT 1 1) v), .int .i64 x2, .int .i64 x3, .int .i64 x4, .int .i64 x5, .int .i64 x6, .int .i64 x7, .int .i64 x8, .int .i64 x9] by simp [bSetV, sj, hbI])
    go_enter Tryd.func18, Tryd.ntmps18
    go_wp2_with fail
    refine (ref11_Fields _ (by omega) _).mono ?_; rintro e w' ⟨rfl, rfl⟩
    have ht : tyV 1 = #[.int .i64 1, .int .i64 6, .int .i64 1, .int .i64 6] := rfl
    have ht2 : fldT 1 1 = 6 := rfl
    rw [ht]
    go_wp2_with fail
    refine (ref01_Wrap _ _ hvr _).mono ?_; rintro e w' ⟨rfl, rfl⟩
    go_wp2_with fail
    refine bodyPost_ret (by simp [results, Tryd.results18, go_sem, more_cell, more_size, more_frozen]; try rfl) rfl ?_
    exact ⟨by rw [hv.out]; rw [ht2], by (repeat' (first | (with_reducible exact Below.refl _ _) | (with_reducible assumption) | (with_reducible refine more_below ?_ ?_ _ _) | (with_reducible refine below_drewN ?_ _) | (with_reducible refine Below.alloc ?_ ?_ _) | (with_reducible refine Below.drew ?_) | (with_reducible refine Below.setCell ?_ ?_ _) | (simp only [World.size_alloc, World.size_setCell, World.size_drew, more_size, World.heap_drewN]; omega) | go_size))⟩
set_option maxHeartbeats 4000000 in
theorem ref11_Set2 (i v x0 x1 x2 x3 x4 x5 x6 x7 x8 x9 : Int) (hi : 0 ≤ i ∧ i < 2) (w : World) (hvr : -9223372036854775808 ≤ v ∧ v ≤ 9223372036854775807) : Calls Tryd.prog 18 #[.int .i64 2, .agg #[.int .i64 x0, .int .i64 x1, .int .i64 x2, .int .i64 x3, .int .i64 x4, .int .i64 x5, .int .i64 x6, .int .i64 x7, .int .i64 x8, .int .i64 x9], .int .i64 i, .int .i64 v] w fun e w' => e = .returned (bSetV 2 i v x0 x1 x2 x3 x4 x5 x6 x7 x8 x9) ∧ Below w.heap.size w w' := by
  have mc := @more_cell
  have mf := @more_frozen
  have ms := @more_set
  have md := more_drewN
  have md1 := more_drew
  have mcp := @cell_past
  have hbI : bI 2 = 2 := rfl
  rcases (show i = 0 ∨ i = 1 by omega) with h | h
  · subst h
    have hv := Lib.hid (show bSetV 2 0 v x0 x1 x2 x3 x4 x5 x6 x7 x8 x9 = .agg #[.int .i64 (kWrap (fldT 2 0) v), .int .i64 x1, .int .i64 x2, .int .i64 x3, .int .i64 x4, .int .i64 x5, .int .i64 x6, .int .i64 x7, .int .i64 x8, .int .i64 x9] by simp [bSetV, sj, hbI])
    go_enter Tryd.func18, Tryd.ntmps18
    go_wp2_with fail
    refine (ref11_Fields _ (by omega) _).mono ?_; rintro e w' ⟨rfl, rfl⟩
    have ht : tyV 2 = #[.int .i64 1, .int .i64 6, .int .i64 1, .int .i64 6] := rfl
    have ht2 : fldT 2 0 = 1 := rfl
    rw [ht]
    go_wp2_with fail
    refine (ref01_Wrap _ _ hvr _).mono ?_; rintro e w' ⟨rfl, rfl⟩
    go_wp2_with fail
    refine bodyPost_ret (by simp [results, Tryd.results18, go_sem, more_cell, more_size, more_frozen]; try rfl) rfl ?_
    exact ⟨by rw [hv.out]; rw [ht2], by (repeat' (first | (with_reducible exact Below.refl _ _) | (with_reducible assumption) | (with_reducible refine more_below ?_ ?_ _ _) | (with_reducible refine below_drewN ?_ _) | (with_reducible refine Below.alloc ?_ ?_ _) | (with_reducible refine Below.drew ?_) | (with_reducible refine Below.setCell ?_ ?_ _) | (simp only [World.size_alloc, World.size_setCell, World.size_drew, more_size, World.heap_drewN]; omega) | go_size))⟩
  · subst h
    have hv := Lib.hid (show bSetV 2 1 v x0 x1 x2 x3 x4 x5 x6 x7 x8 x9 = .agg #[.int .i64 x0, .int .i64 (kWrap (fldT 2 1) v), .int .i64 x2, .int .i64 x3, .int .i64 x4, .int .i64 x5, .int .i64 x6, .int .i64 x7, .int .i64 x8, .int .i64 x9] by simp [bSetV, sj, hbI])
    go_enter Tryd.func18, Tryd.ntmps18
    go_wp2_with fail
    refine (ref11_Fields _ (by omega) _).mono ?_; rintro e w' ⟨rfl, rfl⟩
    have ht : tyV 2 = #[.int .i64 1, .int .i64 6, .int .i64 1, .int .i64 6] := rfl
    have ht2 : fldT 2 1 = 6 := rfl
    rw [ht]
    go_wp2_with fail
    refine (ref01_Wrap _ _ hvr _).mono ?_; rintro e w' ⟨rfl, rfl⟩
    go_wp2_with fail
    refine bodyPost_ret (by simp [results, Tryd.results18, go_sem, more_cell, more_size, more_frozen]; try rfl) rfl ?_
    exact ⟨by rw [hv.out]; rw [ht2], by (repeat' (first | (with_reducible exact Below.refl _ _) | (with_reducible assumption) | (with_reducible refine more_below ?_ ?_ _ _) | (with_reducible refine below_drewN ?_ _) | (with_reducible refine Below.alloc ?_ ?_ _) | (with_reducible refine Below.drew ?_) | (with_reducible refine Below.setCell ?_ ?_ _) | (simp only [World.size_alloc, World.size_setCell, World.size_drew, more_size, World.heap_drewN]; omega) | go_size))⟩
set_option maxHeartbeats 4000000 in
theorem ref11_Set3 (i v x0 x1 x2 x3 x4 x5 x6 x7 x8 x9 : Int) (hi : 0 ≤ i ∧ i < 2) (w : World) (hvr : -9223372036854775808 ≤ v ∧ v ≤ 9223372036854775807) : Calls Tryd.prog 18 #[.int .i64 3, .agg #[.int .i64 x0, .int .i64 x1, .int .i64 x2, .int .i64 x3, .int .i64 x4, .int .i64 x5, .int .i64 x6, .int .i64 x7, .int .i64 x8, .int .i64 x9], .int .i64 i, .int .i64 v] w fun e w' => e = .returned (bSetV 3 i v x0 x1 x2 x3 x4 x5 x6 x7 x8 x9) ∧ Below w.heap.size w w' := by
  have mc := @more_cell
  have mf := @more_frozen
  have ms := @more_set
  have md := more_drewN
  have md1 := more_drew
  have mcp := @cell_past
  have hbI : bI 3 = 2 := rfl
  rcases (show i = 0 ∨ i = 1 by omega) with h | h
  · subst h
    have hv := Lib.hid (show bSetV 3 0 v x0 x1 x2 x3 x4 x5 x6 x7 x8 x9 = .agg #[.int .i64 (kWrap (fldT 3 0) v), .int .i64 x1, .int .i64 x2, .int .i64 x3, .int .i64 x4, .int .i64 x5, .int .i64 x6, .int .i64 x7, .int .i64 x8, .int .i64 x9] by simp [bSetV, sj, hbI])
    go_enter Tryd.func18, Tryd.ntmps18
    go_wp2_with fail
    refine (ref11_Fields _ (by omega) _).mono ?_; rintro e w' ⟨rfl, rfl⟩
    have ht : tyV 3 = #[.int .i64 1, .int .i64 6, .int .i64 1, .int .i64 6] := rfl
    have ht2 : fldT 3 0 = 1 := rfl
    rw [ht]
    go_wp2_with fail
    refine (ref01_Wrap _ _ hvr _).mono ?_; rintro e w' ⟨rfl, rfl⟩
    go_wp2_with fail
    refine bodyPost_ret (by simp [results, Tryd.results18, go_sem, more_cell, more_size, more_frozen]; try rfl) rfl ?_
    exact ⟨by rw [hv.out]; rw [ht2], by (repeat' (first | (with_reducible exact Below.refl _ _) | (with_reducible assumption) | (with_reducible refine more_below ?_ ?_ _ _) | (with_reducible refine below_drewN ?_ _) | (with_reducible refine Below.alloc ?_ ?_ _) | (with_reducible refine Below.drew ?_) | (with_reducible refine Below.setCell ?_ ?_ _) | (simp only [World.size_alloc, World.size_setCell, World.size_drew, more_size, World.heap_drewN]; omega) | go_size))⟩
  · subst h
    have hv := Lib.hid (show bSetV 3 1 v x0 x1 x2 x3 x4 x5 x6 x7 x8 x9 = .agg #[.int .i64 x0, .int .i64 (kWrap (fldT 3 1) v), .int .i64 x2, .int .i64 x3, .int .i64 x4, .int .i64 x5, .int .i64 x6, .int .i64 x7, .int .i64 x8, .int .i64 x9] by simp [bSetV, sj, hbI])
    go_enter Tryd.func18, Tryd.ntmps18
    go_wp2_with fail
    refine (ref11_Fields _ (by omega) _).mono ?_; rintro e w' ⟨rfl, rfl⟩
    have ht : tyV 3 = #[.int .i64 1, .int .i64 6, .int .i64 1, .int .i64 6] := rfl
    have ht2 : fldT 3 1 = 6 := rfl
    rw [ht]
    go_wp2_with fail
    refine (ref01_Wrap _ _ hvr _).mono ?_; rintro e w' ⟨rfl, rfl⟩
    go_wp2_with fail
    refine bodyPost_ret (by simp [results, Tryd.results18, go_sem, more_cell, more_size, more_frozen]; try rfl) rfl ?_
    exact ⟨by rw [hv.out]; rw [ht2], by (repeat' (first | (with_reducible exact Below.refl _ _) | (with_reducible assumption) | (with_reducible refine more_below ?_ ?_ _ _) | (with_reducible refine below_drewN ?_ _) | (with_reducible refine Below.alloc ?_ ?_ _) | (with_reducible refine Below.drew ?_) | (with_reducible refine Below.setCell ?_ ?_ _) | (simp only [World.size_alloc, World.size_setCell, World.size_drew, more_size, World.heap_drewN]; omega) | go_size))⟩
set_option maxHeartbeats 4000000 in
theorem ref11_Set4 (i v x0 x1 x2 x3 x4 x5 x6 x7 x8 x9 : Int) (hi : 0 ≤ i ∧ i < 3) (w : World) (hvr : -9223372036854775808 ≤ v ∧ v ≤ 9223372036854775807) : Calls Tryd.prog 18 #[.int .i64 4, .agg #[.int .i64 x0, .int .i64 x1, .int .i64 x2, .int .i64 x3, .int .i64 x4, .int .i64 x5, .int .i64 x6, .int .i64 x7, .int .i64 x8, .int .i64 x9], .int .i64 i, .int .i64 v] w fun e w' => e = .returned (bSetV 4 i v x0 x1 x2 x3 x4 x5 x6 x7 x8 x9) ∧ Below w.heap.size w w' := by
  have mc := @more_cell
  have mf := @more_frozen
  have ms := @more_set
  have md := more_drewN
  have md1 := more_drew
  have mcp := @cell_past
  have hbI : bI 4 = 3 := rfl
  rcases (show i = 0 ∨ i = 1 ∨ i = 2 by omega) with h | h | h
  · subst h
    have hv := Lib.hid (show bSetV 4 0 v x0 x1 x2 x3 x4 x5 x6 x7 x8 x9 = .agg #[.int .i64 (kWrap (fldT 4 0) v), .int .i64 x1, .int .i64 x2, .int .i64 x3, .int .i64 x4, .int .i64 x5, .int .i64 x6, .int .i64 x7, .int .i64 x8, .int .i64 x9] by simp [bSetV, sj, hbI])
    go_enter Tryd.func18, Tryd.ntmps18
    go_wp2_with fail
    refine (ref11_Fields _ (by omega) _).mono ?_; rintro e w' ⟨rfl, rfl⟩
    have ht : tyV 4 = #[.int .i64 1, .int .i64 1, .int .i64 2, .int .i64 1, .int .i64 2] := rfl
    have ht2 : fldT 4 0 = 1 := rfl
    rw [ht]
    go_wp2_with fail
    refine (ref01_Wrap _ _ hvr _).mono ?_; rintro e w' ⟨rfl, rfl⟩
    go_wp2_with fail
    refine bodyPost_ret (by simp [results, Tryd.results18, go_sem, more_cell, more_size, more_frozen]; try rfl) rfl ?_
    exact ⟨by rw [hv.out]; rw [ht2], by (repeat' (first | (with_reducible exact Below.refl _ _) | (with_reducible assumption) | (with_reducible refine more_below ?_ ?_ _ _) | (with_reducible refine below_drewN ?_ _) | (with_reducible refine Below.alloc ?_ ?_ _) | (with_reducible refine Below.drew ?_) | (with_reducible refine Below.setCell ?_ ?_ _) | (simp only [World.size_alloc, World.size_setCell, World.size_drew, more_size, World.heap_drewN]; omega) | go_size))⟩
  · subst h
    have hv := Lib.hid (show bSetV 4 1 v x0 x1 x2 x3 x4 x5 x6 x7 x8 x9 = .agg #[.int .i64 x0, .int .i64 (kWrap (fldT 4 1) v), .int .i64 x2, .int .i64 x3, .int .i64 x4, .int .i64 x5, .int .i64 x6, .int .i64 x7, .int .i64 x8, .int .i64 x9] by simp [bSetV, sj, hbI])
    go_enter Tryd.func18, Tryd.ntmps18
    go_wp2_with fail
    refine (ref11_Fields _ (by omega) _).mono ?_; rintro e w' ⟨rfl, rfl⟩
    have ht : tyV 4 = #[.int .i64 1, .int .i64 1, .int .i64 2, .int .i64 1, .int .i64 2] := rfl
    have ht2 : fldT 4 1 = 1 := rfl
    rw [ht]
    go_wp2_with fail
    refine (ref01_Wrap _ _ hvr _).mono ?_; rintro e w' ⟨rfl, rfl⟩
    go_wp2_with fail
    refine bodyPost_ret (by simp [results, Tryd.results18, go_sem, more_cell, more_size, more_frozen]; try rfl) rfl ?_
    exact ⟨by rw [hv.out]; rw [ht2], by (repeat' (first | (with_reducible exact Below.refl _ _) | (with_reducible assumption) | (with_reducible refine more_below ?_ ?_ _ _) | (with_reducible refine below_drewN ?_ _) | (with_reducible refine Below.alloc ?_ ?_ _) | (with_reducible refine Below.drew ?_) | (with_reducible refine Below.setCell ?_ ?_ _) | (simp only [World.size_alloc, World.size_setCell, World.size_drew, more_size, World.heap_drewN]; omega) | go_size))⟩
  · subst h
    have hv := Lib.hid (show bSetV 4 2 v x0 x1 x2 x3 x4 x5 x6 x7 x8 x9 = .agg #[.int .i64 x0, .int .i64 x1, .int .i64 (kWrap (fldT 4 2) v), .int .i64 x3, .int .i64 x4, .int .i64 x5, .int .i64 x6, .int .i64 x7, .int .i64 x8, .int .i64 x9] by simp [bSetV, sj, hbI])
    go_enter Tryd.func18, Tryd.ntmps18
    go_wp2_with fail
    refine (ref11_Fields _ (by omega) _).mono ?_; rintro e w' ⟨rfl, rfl⟩
    have ht : tyV 4 = #[.int .i64 1, .int .i64 1, .int .i64 2, .int .i64 1, .int .i64 2] := rfl
    have ht2 : fldT 4 2 = 2 := rfl
    rw [ht]
    go_wp2_with fail
    refine (ref01_Wrap _ _ hvr _).mono ?_; rintro e w' ⟨rfl, rfl⟩
    go_wp2_with fail
    refine bodyPost_ret (by simp [results, Tryd.results18, go_sem, more_cell, more_size, more_frozen]; try rfl) rfl ?_
    exact ⟨by rw [hv.out]; rw [ht2], by (repeat' (first | (with_reducible exact Below.refl _ _) | (with_reducible assumption) | (with_reducible refine more_below ?_ ?_ _ _) | (with_reducible refine below_drewN ?_ _) | (with_reducible refine Below.alloc ?_ ?_ _) | (with_reducible refine Below.drew ?_) | (with_reducible refine Below.setCell ?_ ?_ _) | (simp only [World.size_alloc, World.size_setCell, World.size_drew, more_size, World.heap_drewN]; omega) | go_size))⟩
set_option maxHeartbeats 4000000 in
theorem ref11_Set5 (i v x0 x1 x2 x3 x4 x5 x6 x7 x8 x9 : Int) (hi : 0 ≤ i ∧ i < 3) (w : World) (hvr : -9223372036854775808 ≤ v ∧ v ≤ 9223372036854775807) : Calls Tryd.prog 18 #[.int .i64 5, .agg #[.int .i64 x0, .int .i64 x1, .int .i64 x2, .int .i64 x3, .int .i64 x4, .int .i64 x5, .int .i64 x6, .int .i64 x7, .int .i64 x8, .int .i64 x9], .int .i64 i, .int .i64 v] w fun e w' => e = .returned (bSetV 5 i v x0 x1 x2 x3 x4 x5 x6 x7 x8 x9) ∧ Below w.heap.size w w' := by
  have mc := @more_cell
  have mf := @more_frozen
  have ms := @more_set
  have md := more_drewN
  have md1 := more_drew
  have mcp := @cell_past
  have hbI : bI 5 = 3 := rfl
  rcases (show i = 0 ∨ i = 1 ∨ i = 2 by omega) with h | h | h
  · subst h
    have hv := Lib.hid (show bSetV 5 0 v x0 x1 x2 x3 x4 x5 x6 x7 x8 x9 = .agg #[.int .i64 (kWrap (fldT 5 0) v), .int .i64 x1, .int .i64 x2, .int .i64 x3, .int .i64 x4, .int .i64 x5, .int .i64 x6, .int .i64 x7, .int .i64 x8, .int .i64 x9] by simp [bSetV, sj, hbI])
    go_enter Tryd.func18, Tryd.ntmps18
    go_wp2_with fail
    refine (ref11_Fields _ (by omega) _).mono ?_; rintro e w' ⟨rfl, rfl⟩
    have ht : tyV 5 = #[.int .i64 1, .int .i64 1, .int .i64 2, .int .i64 1, .int .i64 2] := rfl
    have ht2 : fldT 5 0 = 1 := rfl
    rw [ht]
    go_wp2_with fail
    refine (ref01_Wrap _ _ hvr _).mono ?_; rintro e w' ⟨rfl, rfl⟩
    go_wp2_with fail
    refine bodyPost_ret (by simp [results, Tryd.results18, go_sem, more_cell, more_size, more_frozen]; try rfl) rfl ?_
    exact ⟨by rw [hv.out]; rw [ht2], by (repeat' (first | (with_reducible exact Below.refl _ _) | (with_reducible assumption) | (with_reducible refine more_below ?_ ?_ _ _) | (with_reducible refine below_drewN ?_ _) | (with_reducible refine Below.alloc ?_ ?_ _) | (with_reducible refine Below.drew ?_) | (with_reducible refine Below.setCell ?_ ?_ _) | (simp only [World.size_alloc, World.size_setCell, World.size_drew, more_size, World.heap_drewN]; omega) | go_size))⟩
  · subst h
    have hv := Lib.hid (show bSetV 5 1 v x0 x1 x2 x3 x4 x5 x6 x7 x8 x9 = .agg #[.int .i64 x0, .int .i64 (kWrap (fldT 5 1) v), .int .i64 x2, .int .i64 x3, .int .i64 x4, .int .i64 x5, .int .i64 x6, .int .i64 x7, .int .i64 x8, .int .i64 x9] by simp [bSetV, sj, hbI])
    go_enter Tryd.func18, Tryd.ntmps18
    go_wp2_with fail
    refine (ref11_Fields _ (by omega) _).mono ?_; rintro e w' ⟨rfl, rfl⟩
    have ht : tyV 5 = #[.int .i64 1, .int .i64 1, .int .i64 2, .int .i64 1, .int .i64 2] := rfl
    have ht2 : fldT 5 1 = 1 := rfl
    rw [ht]
    go_wp2_with fail
    refine (ref01_Wrap _ _ hvr _).mono ?_; rintro e w' ⟨rfl, rfl⟩
    go_wp2_with fail
    refine bodyPost_ret (by simp [results, Tryd.results18, go_sem, more_cell, more_size, more_frozen]; try rfl) rfl ?_
    exact ⟨by rw [hv.out]; rw [ht2], by (repeat' (first | (with_reducible exact Below.refl _ _) | (with_reducible assumption) | (with_reducible refine more_below ?_ ?_ _ _) | (with_reducible refine below_drewN ?_ _) | (with_reducible refine Below.alloc ?_ ?_ _) | (with_reducible refine Below.drew ?_) | (with_reducible refine Below.setCell ?_ ?_ _) | (simp only [World.size_alloc, World.size_setCell, World.size_drew, more_size, World.heap_drewN]; omega) | go_size))⟩
  · subst h
    have hv := Lib.hid (show bSetV 5 2 v x0 x1 x2 x3 x4 x5 x6 x7 x8 x9 = .agg #[.int .i64 x0, .int .i64 x1, .int .i64 (kWrap (fldT 5 2) v), .int .i64 x3, .int .i64 x4, .int .i64 x5, .int .i64 x6, .int .i64 x7, .int .i64 x8, .int .i64 x9] by simp [bSetV, sj, hbI])
    go_enter Tryd.func18, Tryd.ntmps18
    go_wp2_with fail
    refine (ref11_Fields _ (by omega) _).mono ?_; rintro e w' ⟨rfl, rfl⟩
    have ht : tyV 5 = #[.int .i64 1, .int .i64 1, .int .i64 2, .int .i64 1, .int .i64 2] := rfl
    have ht2 : fldT 5 2 = 2 := rfl
    rw [ht]
    go_wp2_with fail
    refine (ref01_Wrap _ _ hvr _).mono ?_; rintro e w' ⟨rfl, rfl⟩
    go_wp2_with fail
    refine bodyPost_ret (by simp [results, Tryd.results18, go_sem, more_cell, more_size, more_frozen]; try rfl) rfl ?_
    exact ⟨by rw [hv.out]; rw [ht2], by (repeat' (first | (with_reducible exact Below.refl _ _) | (with_reducible assumption) | (with_reducible refine more_below ?_ ?_ _ _) | (with_reducible refine below_drewN ?_ _) | (with_reducible refine Below.alloc ?_ ?_ _) | (with_reducible refine Below.drew ?_) | (with_reducible refine Below.setCell ?_ ?_ _) | (simp only [World.size_alloc, World.size_setCell, World.size_drew, more_size, World.heap_drewN]; omega) | go_size))⟩
set_option maxHeartbeats 4000000 in
theorem ref11_Set6 (i v x0 x1 x2 x3 x4 x5 x6 x7 x8 x9 : Int) (hi : 0 ≤ i ∧ i < 5) (w : World) (hvr : -9223372036854775808 ≤ v ∧ v ≤ 9223372036854775807) : Calls Tryd.prog 18 #[.int .i64 6, .agg #[.int .i64 x0, .int .i64 x1, .int .i64 x2, .int .i64 x3, .int .i64 x4, .int .i64 x5, .int .i64 x6, .int .i64 x7, .int .i64 x8, .int .i64 x9], .int .i64 i, .int .i64 v] w fun e w' => e = .returned (bSetV 6 i v x0 x1 x2 x3 x4 x5 x6 x7 x8 x9) ∧ Below w.heap.size w w' := by
  have mc := @more_cell
  have mf := @more_frozen
  have ms := @more_set
  have md := more_drewN
  have md1 := more_drew
  have mcp := @cell_past
  have hbI : bI 6 = 5 := rfl
  rcases (show i = 0 ∨ i = 1 ∨ i = 2 ∨ i = 3 ∨ i = 4 by omega) with h | h | h | h | h
  · subst h
    have hv := Lib.hid (show bSetV 6 0 v x0 x1 x2 x3 x4 x5 x6 x7 x8 x9 = .agg #[.int .i64 (kWrap (fldT 6 0) v), .int .i64 x1, .int .i64 x2, .int .i64 x3, .int .i64 x4, .int .i64 x5, .int .i64 x6, .int .i64 x7, .int .i64 x8, .int .i64 x9] by simp [bSetV, sj, hbI])
    go_enter Tryd.func18, Tryd.ntmps18
    go_wp2_with fail
    refine (ref11_Fields _ (by omega) _).mono ?_; rintro e w' ⟨rfl, rfl⟩
    have ht : tyV 6 = #[.int .i64 1, .int .i64 1, .int .i64 1, .int .i64 1, .int .i64 2, .int .i64 1, .int .i64 1, .int .i64 2] := rfl
    have ht2 : fldT 6 0 = 1 := rfl
    rw [ht]
    go_wp2_with fail
    refine (ref01_Wrap _ _ hvr _).mono ?_; rintro e w' ⟨rfl, rfl⟩
    go_wp2_with fail
    refine bodyPost_ret (by simp [results, Tryd.results18, go_sem, more_cell, more_size, more_frozen]; try rfl) rfl ?_
    exact ⟨by rw [hv.out]; rw [ht2], by (repeat' (first | (with_reducible exact Below.refl _ _) | (with_reducible assumption) | (with_reducible refine more_below ?_ ?_ _ _) | (with_reducible refine below_drewN ?_ _) | (with_reducible refine Below.alloc ?_ ?_ _) | (with_reducible refine Below.drew ?_) | (with_reducible refine Below.setCell ?_ ?_ _) | (simp only [World.size_alloc, World.size_setCell, World.size_drew, more_size, World.heap_drewN]; omega) | go_size))⟩
  · subst h
    have hv := Lib.hid (show bSetV 6 1 v x0 x1 x2 x3 x4 x5 x6 x7 x8 x9 = .agg #[.int .i64 x0, .int .i64 (kWrap (fldT 6 1) v), .int .i64 x2, .int .i64 x3, .int .i64 x4, .int .i64 x5, .int .i64 x6, .int .i64 x7, .int .i64 x8, .int .i64 x9] by simp [bSetV, sj, hbI])
    go_enter Tryd.func18, Tryd.ntmps18
    go_wp2_with fail
    refine (ref11_Fields _ (by omega) _).mono ?_; rintro e w' ⟨rfl, rfl⟩
    have ht : tyV 6 = #[.int .i64 1, .int .i64 1, .int .i64 1, .int .i64 1, .int .i64 2, .int .i64 1, .int .i64 1, .int .i64 2] := rfl
    have ht2 : fldT 6 1 = 1 := rfl
    rw [ht]
    go_wp2_with fail
    refine (ref01_Wrap _ _ hvr _).mono ?_; rintro e w' ⟨rfl, rfl⟩
    go_wp2_with fail
    refine bodyPost_ret (by simp [results, Tryd.results18, go_sem, more_cell, more_size, more_frozen]; try rfl) rfl ?_
    exact ⟨by rw [hv.out]; rw [ht2], by (repeat' (first | (with_reducible exact Below.refl _ _) | (with_reducible assumption) | (with_reducible refine more_below ?_ ?_ _ _) | (with_reducible refine below_drewN ?_ _) | (with_reducible refine Below.alloc ?_ ?_ _) | (with_reducible refine Below.drew ?_) | (with_reducible refine Below.setCell ?_ ?_ _) | (simp only [World.size_alloc, World.size_setCell, World.size_drew, more_size, World.heap_drewN]; omega) | go_size))⟩
  · subst h
    have hv := Lib.hid (show bSetV 6 2 v x0 x1 x2 x3 x4 x5 x6 x7 x8 x9 = .agg #[.int .i64 x0, .int .i64 x1, .int .i64 (kWrap (fldT 6 2) v), .int .i64 x3, .int .i64 x4, .int .i64 x5, .int .i64 x6, .int .i64 x7, .int .i64 x8, .int .i64 x9] by simp [bSetV, sj, hbI])
    go_enter Tryd.func18, Tryd.ntmps18
    go_wp2_with fail
    refine (ref11_Fields _ (by omega) _).mono ?_; rintro e w' ⟨rfl, rfl⟩
    have ht : tyV 6 = #[.int .i64 1, .int .i64 1, .int .i64 1, .int .i64 1, .int .i64 2, .int .i64 1, .int .i64 1, .int .i64 2] := rfl
    have ht2 : fldT 6 2 = 1 := rfl
    rw [ht]
    go_wp2_with fail
    refine (ref01_Wrap _ _ hvr _).mono ?_; rintro e w' ⟨rfl, rfl⟩
    go_wp2_with fail
    refine bodyPost_ret (by simp [results, Tryd.results18, go_sem, more_cell, more_size, more_frozen]; try rfl) rfl ?_
    exact ⟨by rw [hv.out]; rw [ht2], by (repeat' (first | (with_reducible exact Below.refl _ _) | (with_reducible assumption) | (with_reducible refine more_below ?_ ?_ _ _) | (with_reducible refine below_drewN ?_ _) | (with_reducible refine Below.alloc ?_ ?_ _) | (with_reducible refine Below.drew ?_) | (with_reducible refine Below.setCell ?_ ?_ _) | (simp only [World.size_alloc, World.size_setCell, World.size_drew, more_size, World.heap_drewN]; omega) | go_size))⟩
  · subst h
    have hv := Lib.hid (show bSetV 6 3 v x0 x1 x2 x3 x4 x5 x6 x7 x8 x9 = .agg #[.int .i64 x0, .int .i64 x1, .int .i64 x2, .int .i64 (kWrap (fldT 6 3) v), .int .i64 x4, .int .i64 x5, .int .i64 x6, .int .i64 x7, .int .i64 x8, .int .i64 x9] by simp [bSetV, sj, hbI])
    go_enter Tryd.func18, Tryd.ntmps18
    go_wp2_with fail
    refine (ref11_Fields _ (by omega) _).mono ?_; rintro e w' ⟨rfl, rfl⟩
    have ht : tyV 6 = #[.int .i64 1, .int .i64 1, .int .i64 1, .int .i64 1, .int .i64 2, .int .i64 1, .int .i64 1, .int .i64 2] := rfl
    have ht2 : fldT 6 3 = 1 := rfl
    rw [ht]
    go_wp2_with fail
    refine (ref01_Wrap _ _ hvr _).mono ?_; rintro e w' ⟨rfl, rfl⟩
    go_wp2_with fail
    refine bodyPost_ret (by simp [results, Tryd.results18, go_sem, more_cell, more_size, more_frozen]; try rfl) rfl ?_
    exact ⟨by rw [hv.out]; rw [ht2], by (repeat' (first | (with_reducible exact Below.refl _ _) | (with_reducible assumption) | (with_reducible refine more_below ?_ ?_ _ _) | (with_reducible refine below_drewN ?_ _) | (with_reducible refine Below.alloc ?_ ?_ _) | (with_reducible refine Below.drew ?_) | (with_reducible refine Below.setCell ?_ ?_ _) | (simp only [World.size_alloc, World.size_setCell, World.size_drew, more_size, World.heap_drewN]; omega) | go_size))⟩
  · subst h
    have hv := Lib.hid (show bSetV 6 4 v x0 x1 x2 x3 x4 x5 x6 x7 x8 x9 = .agg #[.int .i64 x0, .int .i64 x1, .int .i64 x2, .int .i64 x3, .int .i64 (kWrap (fldT 6 4) v), .int .i64 x5, .int .i64 x6, .int .i64 x7, .int .i64 x8, .int .i64 x9] by simp [bSetV, sj, hbI])
    go_enter Tryd.func18, Tryd.ntmps18
    go_wp2_with fail
    refine (ref11_Fields _ (by omega) _).mono ?_; rintro e w' ⟨rfl, rfl⟩
    have ht : tyV 6 = #[.int .i64 1, .int .i64 1, .int .i64 1, .int .i64 1, .int .i64 2, .int .i64 1, .int .i64 1, .int .i64 2] := rfl
    have ht2 : fldT 6 4 = 2 := rfl
    rw [ht]
    go_wp2_with fail
    refine (ref01_Wrap _ _ hvr _).mono ?_; rintro e w' ⟨rfl, rfl⟩
    go_wp2_with fail
    refine bodyPost_ret (by simp [results, Tryd.results18, go_sem, more_cell, more_size, more_frozen]; try rfl) rfl ?_
    exact ⟨by rw [hv.out]; rw [ht2], by (repeat' (first | (with_reducible exact Below.refl _ _) | (with_reducible assumption) | (with_reducible refine more_below ?_ ?_ _ _) | (with_reducible refine below_drewN ?_ _) | (with_reducible refine Below.alloc ?_ ?_ _) | (with_reducible refine Below.drew ?_) | (with_reducible refine Below.setCell ?_ ?_ _) | (simp only [World.size_alloc, World.size_setCell, World.size_drew, more_size, World.heap_drewN]; omega) | go_size))⟩
set_option maxHeartbeats 4000000 in
theorem ref11_Set7 (i v x0 x1 x2 x3 x4 x5 x6 x7 x8 x9 : Int) (hi : 0 ≤ i ∧ i < 1) (w : World) (hvr : -9223372036854775808 ≤ v ∧ v ≤ 9223372036854775807) : Calls Tryd.prog 18 #[.int .i64 7, .agg #[.int .i64 x0, .int .i64 x1, .int .i64 x2, .int .i64 x3, .int .i64 x4, .int .i64 x5, .int .i64 x6, .int .i64 x7, .int .i64 x8, .int .i64 x9], .int .i64 i, .int .i64 v] w fun e w' => e = .returned (bSetV 7 i v x0 x1 x2 x3 x4 x5 x6 x7 x8 x9) ∧ Below w.heap.size w w' := by
  have mc := @more_cell
  have mf := @more_frozen
  have ms := @more_set
  have md := more_drewN
  have md1 := more_drew
  have mcp := @cell_past
  have hbI : bI 7 = 1 := rfl
  rcases (show i = 0 by omega) with h
  · subst h
    have hv := Lib.hid (show bSetV 7 0 v x0 x1 x2 x3 x4 x5 x6 x7 x8 x9 = .agg #[.int .i64 (kWrap (fldT 7 0) v), .int .i64 x1, .int .i64 x2, .int .i64 x3, .int .i64 x4, .int .i64 x5, .int .i64 x6, .int .i64 x7, .int .i64 x8, .int .i64 x9] by simp [bSetV, sj, hbI])
    go_enter Tryd.func18, Tryd.ntmps18
    go_wp2_with fail
    refine (ref11_Fields _ (by omega) _).mono ?_; rintro e w' ⟨rfl, rfl⟩
    have ht : tyV 7 = #[.int .i64 1, .int .i64 1] := rfl
    have ht2 : fldT 7 0 = 1 := rfl
    rw [ht]
    go_wp2_with fail
    refine (ref01_Wrap _ _ hvr _).mono ?_; rintro e w' ⟨rfl, rfl⟩
    go_wp2_with fail
    refine bodyPost_ret (by simp [results, Tryd.results18, go_sem, more_cell, more_size, more_frozen]; try rfl) rfl ?_
    exact ⟨by rw [hv.out]; rw [ht2], by (repeat' (first | (with_reducible exact Below.refl _ _) | (with_reducible assumption) | (with_reducible refine more_below ?_ ?_ _ _) | (with_reducible refine below_drewN ?_ _) | (with_reducible refine Below.alloc ?_ ?_ _) | (with_reducible refine Below.drew ?_) | (with_reducible refine Below.setCell ?_ ?_ _) | (simp only [World.size_alloc, World.size_setCell, World.size_drew, more_size, World.heap_drewN]; omega) | go_size))⟩
set_option maxHeartbeats 4000000 in
theorem ref11_Set8 (i v x0 x1 x2 x3 x4 x5 x6 x7 x8 x9 : Int) (hi : 0 ≤ i ∧ i < 1) (w : World) (hvr : -9223372036854775808 ≤ v ∧ v ≤ 9223372036854775807) : Calls Tryd.prog 18 #[.int .i64 8, .agg #[.int .i64 x0, .int .i64 x1, .int .i64 x2, .int .i64 x3, .int .i64 x4, .int .i64 x5, .int .i64 x6, .int .i64 x7, .int .i64 x8, .int .i64 x9], .int .i64 i, .int .i64 v] w fun e w' => e = .returned (bSetV 8 i v x0 x1 x2 x3 x4 x5 x6 x7 x8 x9) ∧ Below w.heap.size w w' := by
  have mc := @more_cell
  have mf := @more_frozen
  have ms := @more_set
  have md := more_drewN
  have md1 := more_drew
  have mcp := @cell_past
  have hbI : bI 8 = 1 := rfl
  rcases (show i = 0 by omega) with h
  · subst h
    have hv := Lib.hid (show bSetV 8 0 v x0 x1 x2 x3 x4 x5 x6 x7 x8 x9 = .agg #[.int .i64 (kWrap (fldT 8 0) v), .int .i64 x1, .int .i64 x2, .int .i64 x3, .int .i64 x4, .int .i64 x5, .int .i64 x6, .int .i64 x7, .int .i64 x8, .int .i64 x9] by simp [bSetV, sj, hbI])
    go_enter Tryd.func18, Tryd.ntmps18
    go_wp2_with fail
    refine (ref11_Fields _ (by omega) _).mono ?_; rintro e w' ⟨rfl, rfl⟩
    have ht : tyV 8 = #[.int .i64 1, .int .i64 1] := rfl
    have ht2 : fldT 8 0 = 1 := rfl
    rw [ht]
    go_wp2_with fail
    refine (ref01_Wrap _ _ hvr _).mono ?_; rintro e w' ⟨rfl, rfl⟩
    go_wp2_with fail
    refine bodyPost_ret (by simp [results, Tryd.results18, go_sem, more_cell, more_size, more_frozen]; try rfl) rfl ?_
    exact ⟨by rw [hv.out]; rw [ht2], by (repeat' (first | (with_reducible exact Below.refl _ _) | (with_reducible assumption) | (with_reducible refine more_below ?_ ?_ _ _) | (with_reducible refine below_drewN ?_ _) | (with_reducible refine Below.alloc ?_ ?_ _) | (with_reducible refine Below.drew ?_) | (with_reducible refine Below.setCell ?_ ?_ _) | (simp only [World.size_alloc, World.size_setCell, World.size_drew, more_size, World.heap_drewN]; omega) | go_size))⟩
set_option maxHeartbeats 4000000 in
theorem ref11_Set (k i v x0 x1 x2 x3 x4 x5 x6 x7 x8 x9 : Int) (w : World) (hvr : -9223372036854775808 ≤ v ∧ v ≤ 9223372036854775807) : Calls Tryd.prog 18 #[.int .i64 k, .agg #[.int .i64 x0, .int .i64 x1, .int .i64 x2, .int .i64 x3, .int .i64 x4, .int .i64 x5, .int .i64 x6, .int .i64 x7, .int .i64 x8, .int .i64 x9], .int .i64 i, .int .i64 v] w fun e w' => e = .returned (bSetV k i v x0 x1 x2 x3 x4 x5 x6 x7 x8 x9) ∧ Below w.heap.size w w' := by
  have mc := @more_cell
  have mf := @more_frozen
  have ms := @more_set
  have md := more_drewN
  have md1 := more_drew
  have mcp := @cell_past
  by_cases hi : 0 ≤ i ∧ i < bI k
  · have hk := kind_of_in hi
    rcases k8 hk with h | h | h | h | h | h | h | h
    · subst h; exact ref11_Set1 i v x0 x1 x2 x3 x4 x5 x6 x7 x8 x9 hi w hvr
    · subst h; exact ref11_Set2 i v x0 x1 x2 x3 x4 x5 x6 x7 x8 x9 hi w hvr
    · subst h; exact ref11_Set3 i v x0 x1 x2 x3 x4 x5 x6 x7 x8 x9 hi w hvr
    · subst h; exact ref11_Set4 i v x0 x1 x2 x3 x4 x5 x6 x7 x8 x9 hi w hvr
    · subst h; exact ref11_Set5 i v x0 x1 x2 x3 x4 x5 x6 x7 x8 x9 hi w hvr
    · subst h; exact ref11_Set6 i v x0 x1 x2 x3 x4 x5 x6 x7 x8 x9 hi w hvr
    · subst h; exact ref11_Set7 i v x0 x1 x2 x3 x4 x5 x6 x7 x8 x9 hi w hvr
    · subst h; exact ref11_Set8 i v x0 x1 x2 x3 x4 x5 x6 x7 x8 x9 hi w hvr
  · have hv := Lib.hid (bSet_no hi v x0 x1 x2 x3 x4 x5 x6 x7 x8 x9)
    by_cases hk : 1 ≤ k ∧ k ≤ 8
    · have hF := @ref11_Fields k hk
      generalize bI k = n at *
      generalize (bF k).length = m at *
      generalize nmV k = A at *
      generalize tyV k = B at *
      by_cases h0 : i < 0
      · go_enter Tryd.func18, Tryd.ntmps18
        go_wp2_with fail
        refine (hF _).mono ?_; rintro e w' ⟨rfl, rfl⟩
        go_wp2_with fail
        refine bodyPost_ret (by simp [results, Tryd.results18, go_sem, more_cell, more_size, more_frozen]; try rfl) rfl ?_
        exact ⟨by rw [hv.out], by (repeat' (first | (with_reducible exact Below.refl _ _) | (with_reducible assumption) | (with_reducible refine more_below ?_ ?_ _ _) | (with_reducible refine below_drewN ?_ _) | (with_reducible refine Below.alloc ?_ ?_ _) | (with_reducible refine Below.drew ?_) | (with_reducible refine Below.setCell ?_ ?_ _) | (simp only [World.size_alloc, World.size_setCell, World.size_drew, more_size, World.heap_drewN]; omega) | go_size))⟩
      · have hge : n ≤ i := by omega
        go_enter Tryd.func18, Tryd.ntmps18
        go_wp2_with fail
        refine (hF _).mono ?_; rintro e w' ⟨rfl, rfl⟩
        go_wp2_with fail
        refine bodyPost_ret (by simp [results, Tryd.results18, go_sem, more_cell, more_size, more_frozen]; try rfl) rfl ?_
        exact ⟨by rw [hv.out], by (repeat' (first | (with_reducible exact Below.refl _ _) | (with_reducible assumption) | (with_reducible refine more_below ?_ ?_ _ _) | (with_reducible refine below_drewN ?_ _) | (with_reducible refine Below.alloc ?_ ?_ _) | (with_reducible refine Below.drew ?_) | (with_reducible refine Below.setCell ?_ ?_ _) | (simp only [World.size_alloc, World.size_setCell, World.size_drew, more_size, World.heap_drewN]; omega) | go_size))⟩
    · by_cases h0 : i < 0
      · go_enter Tryd.func18, Tryd.ntmps18
        go_wp2_with fail
        refine (ref11_Fields_no k hk _).mono ?_; rintro e w' ⟨rfl, rfl⟩
        go_wp2_with fail
        refine bodyPost_ret (by simp [results, Tryd.results18, go_sem, more_cell, more_size, more_frozen]; try rfl) rfl ?_
        exact ⟨by rw [hv.out], by (repeat' (first | (with_reducible exact Below.refl _ _) | (with_reducible assumption) | (with_reducible refine more_below ?_ ?_ _ _) | (with_reducible refine below_drewN ?_ _) | (with_reducible refine Below.alloc ?_ ?_ _) | (with_reducible refine Below.drew ?_) | (with_reducible refine Below.setCell ?_ ?_ _) | (simp only [World.size_alloc, World.size_setCell, World.size_drew, more_size, World.heap_drewN]; omega) | go_size))⟩
      · have hge : 0 ≤ i := by omega
        go_enter Tryd.func18, Tryd.ntmps18
        go_wp2_with fail
        refine (ref11_Fields_no k hk _).mono ?_; rintro e w' ⟨rfl, rfl⟩
        go_wp2_with fail
        refine bodyPost_ret (by simp [results, Tryd.results18, go_sem, more_cell, more_size, more_frozen]; try rfl) rfl ?_
        exact ⟨by rw [hv.out], by (repeat' (first | (with_reducible exact Below.refl _ _) | (with_reducible assumption) | (with_reducible refine more_below ?_ ?_ _ _) | (with_reducible refine below_drewN ?_ _) | (with_reducible refine Below.alloc ?_ ?_ _) | (with_reducible refine Below.drew ?_) | (with_reducible refine Below.setCell ?_ ?_ _) | (simp only [World.size_alloc, World.size_setCell, World.size_drew, more_size, World.heap_drewN]; omega) | go_size))⟩
end Go.Proofs.YtajgdfgemcpjgaaDoor
