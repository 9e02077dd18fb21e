/- Layer 12: the answer's Right, and an instruction's line. -/
import Derived.Test.YtaeaiaamhgcmbaaDoorOpR
import Derived.Test.YtaeaiaamhgcmbaaDoorNumRefParse
import Derived.Test.YtaeaiaamhgcmbaaDoorRowTwo
namespace Go.Proofs.YtaeaiaamhgcmbaaDoor
open Go.RowKit
set_option linter.unusedSimpArgs false
set_option linter.unusedVariables false
set_option maxHeartbeats 2000000 in
theorem ref12_Right (o a b : Int) (w : World) : Calls Tryd.prog 16 #[.agg #[.int .i64 o, .int .i64 a, .int .i64 b]] w fun e w' => e = .returned (.bool (oRight o a b)) ∧ Below w.heap.size w w' := by
  have mc := @more_cell
  have HR := Lib.hid (show oRight o a b = (oIs o && oFit (oA o) a && oFit (oB o) b) from rfl)
  have HY := Lib.hid (@oIs_yes o)
  have HN := Lib.hid (@oIs_no o)
  have hS := @ref12_Shape o
  have hA := @ref12_may a (oA o)
  have hB := @ref12_may b (oB o)
  generalize oA o = x at *
  generalize oB o = y at *
  generalize oFit x a = p at *
  generalize oFit y b = q at *
  by_cases h0 : 0 ≤ o
  · by_cases h1 : o ≤ 37
    · have hi := Lib.hid (HY.out ⟨h0, h1⟩)
      cases p <;> cases q
      all_goals
        go_enter Tryd.func16, Tryd.ntmps16
        go_wp2_with fail
        refine (hS _).mono ?_; rintro e w1 ⟨rfl, hb⟩
        obtain ⟨l, d, rfl⟩ := more_of hb
        clear hb
        go_wp2_with fail
        try (refine (hA _).mono ?_; rintro e w' ⟨rfl, rfl⟩; go_wp2_with fail)
        try (refine (hB _).mono ?_; rintro e w' ⟨rfl, rfl⟩; go_wp2_with fail)
        go_ret
        exact ⟨by rw [HR.out, hi.out]; rfl, by (repeat' (first | (with_reducible exact Below.refl _ _) | (with_reducible assumption) | (with_reducible refine more_below ?_ ?_ _ _) | (with_reducible refine below_drewN ?_ _) | (with_reducible refine Below.alloc ?_ ?_ _) | (with_reducible refine Below.drew ?_) | (with_reducible refine Below.setCell ?_ ?_ _) | (simp only [World.size_alloc, World.size_setCell, World.size_drew, more_size, World.heap_drewN]; omega) | go_size))⟩
    · have hi := Lib.hid (HN.out (fun h => h1 h.2))
      go_enter Tryd.func16, Tryd.ntmps16
      go_wp2_with fail
      refine (hS _).mono ?_; rintro e w1 ⟨rfl, hb⟩
      obtain ⟨l, d, rfl⟩ := more_of hb
      clear hb
      go_wp2_with fail
      go_ret
      exact ⟨by rw [HR.out, hi.out]; rfl, by (repeat' (first | (with_reducible exact Below.refl _ _) | (with_reducible assumption) | (with_reducible refine more_below ?_ ?_ _ _) | (with_reducible refine below_drewN ?_ _) | (with_reducible refine Below.alloc ?_ ?_ _) | (with_reducible refine Below.drew ?_) | (with_reducible refine Below.setCell ?_ ?_ _) | (simp only [World.size_alloc, World.size_setCell, World.size_drew, more_size, World.heap_drewN]; omega) | go_size))⟩
  · have hi := Lib.hid (HN.out (fun h => h0 h.1))
    go_enter Tryd.func16, Tryd.ntmps16
    go_wp2_with fail
    refine (hS _).mono ?_; rintro e w1 ⟨rfl, hb⟩
    obtain ⟨l, d, rfl⟩ := more_of hb
    clear hb
    go_wp2_with fail
    go_ret
    exact ⟨by rw [HR.out, hi.out]; rfl, by (repeat' (first | (with_reducible exact Below.refl _ _) | (with_reducible assumption) | (with_reducible refine more_below ?_ ?_ _ _) | (with_reducible refine below_drewN ?_ _) | (with_reducible refine Below.alloc ?_ ?_ _) | (with_reducible refine Below.drew ?_) | (with_reducible refine Below.setCell ?_ ?_ _) | (simp only [World.size_alloc, World.size_setCell, World.size_drew, more_size, World.heap_drewN]; omega) | go_size))⟩
/-- what stands behind the word -/
def oPart (a n : Int) : ByteArray := if a = 0 then ⟨#[]⟩ else ⟨#[32]⟩ ++ prS n
/-- an instruction's line -/
def oLine (o a b : Int) : ByteArray := if oRight o a b = true then oW o ++ oPart (oA o) a ++ oPart (oB o) b else ⟨#[]⟩
theorem ba_nil (s : ByteArray) : s ++ (⟨#[]⟩ : ByteArray) = s := by
  apply ByteArray.ext
  simp
theorem oLine_no {o a b : Int} (h : oRight o a b = false) : oLine o a b = ⟨#[]⟩ := by unfold oLine; rw [if_neg (by rw [h]; decide)]
theorem oLine_00 {o a b : Int} (h : oRight o a b = true) (ha : oA o = 0) (hb : oB o = 0) : oLine o a b = oW o := by
  unfold oLine oPart; rw [if_pos h, if_pos ha, if_pos hb, ba_nil, ba_nil]
theorem oLine_10 {o a b : Int} (h : oRight o a b = true) (ha : ¬ oA o = 0) (hb : oB o = 0) : oLine o a b = oW o ++ (⟨#[32]⟩ ++ prS a) := by
  unfold oLine oPart; rw [if_pos h, if_neg ha, if_pos hb, ba_nil]
theorem oLine_01 {o a b : Int} (h : oRight o a b = true) (ha : oA o = 0) (hb : ¬ oB o = 0) : oLine o a b = oW o ++ (⟨#[32]⟩ ++ prS b) := by
  unfold oLine oPart; rw [if_pos h, if_pos ha, if_neg hb, ba_nil]
theorem oLine_11 {o a b : Int} (h : oRight o a b = true) (ha : ¬ oA o = 0) (hb : ¬ oB o = 0) : oLine o a b = oW o ++ (⟨#[32]⟩ ++ prS a) ++ (⟨#[32]⟩ ++ prS b) := by
  unfold oLine oPart; rw [if_pos h, if_neg ha, if_neg hb]
theorem oW_size (o : Int) : (oW o).size ≤ 10 := by
  by_cases h : 0 ≤ o ∧ o ≤ 37
  · have hall : ∀ n : Fin 38, (oW (n.1 : Int)).size ≤ 10 := by decide +kernel
    have := hall ⟨o.toNat, by omega⟩
    have e : ((o.toNat : Nat) : Int) = o := by omega
    simp only [e] at this
    exact this
  · rw [(o_no h).2.2]; decide
theorem prS_sz {n : Int} (h : -9223372036854775808 ≤ n ∧ n ≤ 9223372036854775807) : (prS n).size ≤ 20 := by
  rw [show (prS n).size = (pr n).length from List.size_toArray]; exact pr_len h
set_option maxHeartbeats 2000000 in
theorem op_Line (o a b : Int) (ha : -9223372036854775808 ≤ a ∧ a ≤ 9223372036854775807) (hb : -9223372036854775808 ≤ b ∧ b ≤ 9223372036854775807) (w : World) (hT : OTab w) : Calls Tryd.prog 18 #[.agg #[.int .i64 o, .int .i64 a, .int .i64 b]] w fun e w' => e = .returned (.string (oLine o a b)) ∧ Below w.heap.size w w' := by
  have mc := @more_cell
  have md := more_drewN
  have mm := more_more
  have hR := @op_Right o a b
  have hW := @op_Word o
  have hS := @op_Shape o
  have zw := oW_size o
  have za := prS_sz ha
  have zb := prS_sz hb
  have HA := Lib.hid ha
  have HB := Lib.hid hb
  cases hr : oRight o a b
  · have HL := Lib.hid (oLine_no hr)
    rw [hr] at hR
    go_enter Tryd.func18, Tryd.ntmps18
    go_wp2_with fail
    refine (hR _ (hT.below (by (repeat' (first | (with_reducible exact Below.refl _ _) | (with_reducible assumption) | (with_reducible refine below_drewN ?_ _) | (with_reducible refine Below.alloc ?_ ?_ _) | (with_reducible refine Below.drew ?_) | (with_reducible refine Below.setCell ?_ ?_ _) | go_size))))).mono ?_; rintro e w1 ⟨rfl, hb1⟩
    obtain ⟨l, d, rfl⟩ := more_of hb1
    clear hb1
    go_wp2_with fail
    go_ret
    exact ⟨by rw [HL.out]; rfl, by (repeat' (first | (with_reducible exact Below.refl _ _) | (with_reducible assumption) | (with_reducible refine more_below ?_ ?_ _ _) | (with_reducible refine below_drewN ?_ _) | (with_reducible refine Below.alloc ?_ ?_ _) | (with_reducible refine Below.drew ?_) | (with_reducible refine Below.setCell ?_ ?_ _) | (simp only [World.size_alloc, World.size_setCell, World.size_drew, more_size, World.heap_drewN]; omega) | go_size))⟩
  · rw [hr] at hR
    by_cases hx : oA o = 0
    · by_cases hy : oB o = 0
      · skip
        have HL := Lib.hid (oLine_00 hr hx hy)
        have hbx : (oA o != 0) = false := by rw [hx]; rfl
        have hby : (oB o != 0) = false := by rw [hy]; rfl
        clear hx hy
        generalize oA o = x at *
        generalize oB o = y at *
        go_enter Tryd.func18, Tryd.ntmps18
        go_wp2_with fail
        refine (hR _ (hT.below (by (repeat' (first | (with_reducible exact Below.refl _ _) | (with_reducible assumption) | (with_reducible refine below_drewN ?_ _) | (with_reducible refine Below.alloc ?_ ?_ _) | (with_reducible refine Below.drew ?_) | (with_reducible refine Below.setCell ?_ ?_ _) | go_size))))).mono ?_; rintro e w1 ⟨rfl, hb1⟩
        obtain ⟨l, d, rfl⟩ := more_of hb1
        clear hb1
        go_wp2_with fail
        refine (hW _ (hT.below (by (repeat' (first | (with_reducible exact Below.refl _ _) | (with_reducible assumption) | (with_reducible refine more_below ?_ ?_ _ _) | (with_reducible refine below_drewN ?_ _) | (with_reducible refine Below.alloc ?_ ?_ _) | (with_reducible refine Below.drew ?_) | (with_reducible refine Below.setCell ?_ ?_ _) | (simp only [World.size_alloc, World.size_setCell, World.size_drew, more_size, World.heap_drewN]; omega) | go_size))))).mono ?_; rintro e w' ⟨rfl, rfl⟩
        go_wp2_with fail
        refine (hS _ (hT.below (by (repeat' (first | (with_reducible exact Below.refl _ _) | (with_reducible assumption) | (with_reducible refine more_below ?_ ?_ _ _) | (with_reducible refine below_drewN ?_ _) | (with_reducible refine Below.alloc ?_ ?_ _) | (with_reducible refine Below.drew ?_) | (with_reducible refine Below.setCell ?_ ?_ _) | (simp only [World.size_alloc, World.size_setCell, World.size_drew, more_size, World.heap_drewN]; omega) | go_size))))).mono ?_; rintro e w1 ⟨rfl, m, rfl⟩
        go_wp2_with fail
        go_ret
        exact ⟨by rw [HL.out]; rfl, by (repeat' (first | (with_reducible exact Below.refl _ _) | (with_reducible assumption) | (with_reducible refine more_below ?_ ?_ _ _) | (with_reducible refine below_drewN ?_ _) | (with_reducible refine Below.alloc ?_ ?_ _) | (with_reducible refine Below.drew ?_) | (with_reducible refine Below.setCell ?_ ?_ _) | (simp only [World.size_alloc, World.size_setCell, World.size_drew, more_size, World.heap_drewN]; omega) | go_size))⟩
      · skip
        have HL := Lib.hid (oLine_01 hr hx hy)
        have hbx : (oA o != 0) = false := by rw [hx]; rfl
        have hby : (oB o != 0) = true := by rw [bne, beq_eq_false_iff_ne.2 hy]; rfl
        clear hx hy
        generalize oA o = x at *
        generalize oB o = y at *
        go_enter Tryd.func18, Tryd.ntmps18
        go_wp2_with fail
        refine (hR _ (hT.below (by (repeat' (first | (with_reducible exact Below.refl _ _) | (with_reducible assumption) | (with_reducible refine below_drewN ?_ _) | (with_reducible refine Below.alloc ?_ ?_ _) | (with_reducible refine Below.drew ?_) | (with_reducible refine Below.setCell ?_ ?_ _) | go_size))))).mono ?_; rintro e w1 ⟨rfl, hb1⟩
        obtain ⟨l, d, rfl⟩ := more_of hb1
        clear hb1
        go_wp2_with fail
        refine (hW _ (hT.below (by (repeat' (first | (with_reducible exact Below.refl _ _) | (with_reducible assumption) | (with_reducible refine more_below ?_ ?_ _ _) | (with_reducible refine below_drewN ?_ _) | (with_reducible refine Below.alloc ?_ ?_ _) | (with_reducible refine Below.drew ?_) | (with_reducible refine Below.setCell ?_ ?_ _) | (simp only [World.size_alloc, World.size_setCell, World.size_drew, more_size, World.heap_drewN]; omega) | go_size))))).mono ?_; rintro e w' ⟨rfl, rfl⟩
        go_wp2_with fail
        refine (hS _ (hT.below (by (repeat' (first | (with_reducible exact Below.refl _ _) | (with_reducible assumption) | (with_reducible refine more_below ?_ ?_ _ _) | (with_reducible refine below_drewN ?_ _) | (with_reducible refine Below.alloc ?_ ?_ _) | (with_reducible refine Below.drew ?_) | (with_reducible refine Below.setCell ?_ ?_ _) | (simp only [World.size_alloc, World.size_setCell, World.size_drew, more_size, World.heap_drewN]; omega) | go_size))))).mono ?_; rintro e w1 ⟨rfl, m, rfl⟩
        go_wp2_with fail
        refine (num_Print b HB.out _).mono ?_; rintro e w3 ⟨rfl, hb3⟩
        obtain ⟨l3, d3, rfl⟩ := more_of hb3
        clear hb3
        go_wp2_with fail
        go_ret
        exact ⟨by rw [HL.out]; rfl, by (repeat' (first | (with_reducible exact Below.refl _ _) | (with_reducible assumption) | (with_reducible refine more_below ?_ ?_ _ _) | (with_reducible refine below_drewN ?_ _) | (with_reducible refine Below.alloc ?_ ?_ _) | (with_reducible refine Below.drew ?_) | (with_reducible refine Below.setCell ?_ ?_ _) | (simp only [World.size_alloc, World.size_setCell, World.size_drew, more_size, World.heap_drewN]; omega) | go_size))⟩
    · by_cases hy : oB o = 0
      · skip
        have HL := Lib.hid (oLine_10 hr hx hy)
        have hbx : (oA o != 0) = true := by rw [bne, beq_eq_false_iff_ne.2 hx]; rfl
        have hby : (oB o != 0) = false := by rw [hy]; rfl
        clear hx hy
        generalize oA o = x at *
        generalize oB o = y at *
        go_enter Tryd.func18, Tryd.ntmps18
        go_wp2_with fail
        refine (hR _ (hT.below (by (repeat' (first | (with_reducible exact Below.refl _ _) | (with_reducible assumption) | (with_reducible refine below_drewN ?_ _) | (with_reducible refine Below.alloc ?_ ?_ _) | (with_reducible refine Below.drew ?_) | (with_reducible refine Below.setCell ?_ ?_ _) | go_size))))).mono ?_; rintro e w1 ⟨rfl, hb1⟩
        obtain ⟨l, d, rfl⟩ := more_of hb1
        clear hb1
        go_wp2_with fail
        refine (hW _ (hT.below (by (repeat' (first | (with_reducible exact Below.refl _ _) | (with_reducible assumption) | (with_reducible refine more_below ?_ ?_ _ _) | (with_reducible refine below_drewN ?_ _) | (with_reducible refine Below.alloc ?_ ?_ _) | (with_reducible refine Below.drew ?_) | (with_reducible refine Below.setCell ?_ ?_ _) | (simp only [World.size_alloc, World.size_setCell, World.size_drew, more_size, World.heap_drewN]; omega) | go_size))))).mono ?_; rintro e w' ⟨rfl, rfl⟩
        go_wp2_with fail
        refine (hS _ (hT.below (by (repeat' (first | (with_reducible exact Below.refl _ _) | (with_reducible assumption) | (with_reducible refine more_below ?_ ?_ _ _) | (with_reducible refine below_drewN ?_ _) | (with_reducible refine Below.alloc ?_ ?_ _) | (with_reducible refine Below.drew ?_) | (with_reducible refine Below.setCell ?_ ?_ _) | (simp only [World.size_alloc, World.size_setCell, World.size_drew, more_size, World.heap_drewN]; omega) | go_size))))).mono ?_; rintro e w1 ⟨rfl, m, rfl⟩
        go_wp2_with fail
        refine (num_Print a HA.out _).mono ?_; rintro e w2 ⟨rfl, hb2⟩
        obtain ⟨l2, d2, rfl⟩ := more_of hb2
        clear hb2
        go_wp2_with fail
        go_ret
        exact ⟨by rw [HL.out]; rfl, by (repeat' (first | (with_reducible exact Below.refl _ _) | (with_reducible assumption) | (with_reducible refine more_below ?_ ?_ _ _) | (with_reducible refine below_drewN ?_ _) | (with_reducible refine Below.alloc ?_ ?_ _) | (with_reducible refine Below.drew ?_) | (with_reducible refine Below.setCell ?_ ?_ _) | (simp only [World.size_alloc, World.size_setCell, World.size_drew, more_size, World.heap_drewN]; omega) | go_size))⟩
      · skip
        have HL := Lib.hid (oLine_11 hr hx hy)
        have hbx : (oA o != 0) = true := by rw [bne, beq_eq_false_iff_ne.2 hx]; rfl
        have hby : (oB o != 0) = true := by rw [bne, beq_eq_false_iff_ne.2 hy]; rfl
        clear hx hy
        generalize oA o = x at *
        generalize oB o = y at *
        go_enter Tryd.func18, Tryd.ntmps18
        go_wp2_with fail
        refine (hR _ (hT.below (by (repeat' (first | (with_reducible exact Below.refl _ _) | (with_reducible assumption) | (with_reducible refine below_drewN ?_ _) | (with_reducible refine Below.alloc ?_ ?_ _) | (with_reducible refine Below.drew ?_) | (with_reducible refine Below.setCell ?_ ?_ _) | go_size))))).mono ?_; rintro e w1 ⟨rfl, hb1⟩
        obtain ⟨l, d, rfl⟩ := more_of hb1
        clear hb1
        go_wp2_with fail
        refine (hW _ (hT.below (by (repeat' (first | (with_reducible exact Below.refl _ _) | (with_reducible assumption) | (with_reducible refine more_below ?_ ?_ _ _) | (with_reducible refine below_drewN ?_ _) | (with_reducible refine Below.alloc ?_ ?_ _) | (with_reducible refine Below.drew ?_) | (with_reducible refine Below.setCell ?_ ?_ _) | (simp only [World.size_alloc, World.size_setCell, World.size_drew, more_size, World.heap_drewN]; omega) | go_size))))).mono ?_; rintro e w' ⟨rfl, rfl⟩
        go_wp2_with fail
        refine (hS _ (hT.below (by (repeat' (first | (with_reducible exact Below.refl _ _) | (with_reducible assumption) | (with_reducible refine more_below ?_ ?_ _ _) | (with_reducible refine below_drewN ?_ _) | (with_reducible refine Below.alloc ?_ ?_ _) | (with_reducible refine Below.drew ?_) | (with_reducible refine Below.setCell ?_ ?_ _) | (simp only [World.size_alloc, World.size_setCell, World.size_drew, more_size, World.heap_drewN]; omega) | go_size))))).mono ?_; rintro e w1 ⟨rfl, m, rfl⟩
        go_wp2_with fail
        refine (num_Print a HA.out _).mono ?_; rintro e w2 ⟨rfl, hb2⟩
        obtain ⟨l2, d2, rfl⟩ := more_of hb2
        clear hb2
        go_wp2_with fail
        refine (num_Print b HB.out _).mono ?_; rintro e w3 ⟨rfl, hb3⟩
        obtain ⟨l3, d3, rfl⟩ := more_of hb3
        clear hb3
        go_wp2_with fail
        go_ret
        exact ⟨by rw [HL.out]; rfl, by (repeat' (first | (with_reducible exact Below.refl _ _) | (with_reducible assumption) | (with_reducible refine more_below ?_ ?_ _ _) | (with_reducible refine below_drewN ?_ _) | (with_reducible refine Below.alloc ?_ ?_ _) | (with_reducible refine Below.drew ?_) | (with_reducible refine Below.setCell ?_ ?_ _) | (simp only [World.size_alloc, World.size_setCell, World.size_drew, more_size, World.heap_drewN]; omega) | go_size))⟩
end Go.Proofs.YtaeaiaamhgcmbaaDoor
