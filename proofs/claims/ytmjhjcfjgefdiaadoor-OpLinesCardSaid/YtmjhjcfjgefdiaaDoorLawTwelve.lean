/- Layer 12: the law OpBack's walk. -/
import Derived.Test.YtmjhjcfjgefdiaaDoorOpRead
import Derived.Test.YtmjhjcfjgefdiaaDoorInstr
import Derived.Test.YtmjhjcfjgefdiaaDoorCThree
namespace Go.Proofs.YtmjhjcfjgefdiaaDoor
open Go.RowKit
set_option linter.unusedSimpArgs false
set_option linter.unusedVariables false
theorem oLine_set : oLine 35 2 1 = ⟨#[115, 101, 116, 32, 50, 32, 49]⟩ := by
  apply ByteArray.ext
  decide +kernel
theorem law12_awake (w : World) (hT : OTab w) : Calls Tryd.prog 6 #[] w fun e w' => e = .returned (.bool true) ∧ Below w.heap.size w w' := by
  have h := oLine_set
  go_enter Tryd.func6, Tryd.ntmps6
  go_wp2_with fail
  refine (op_Line 35 2 1 (by omega) (by omega) _ (hT.below (by (repeat' (first | (with_reducible exact Below.refl _ _) | (with_reducible assumption) | (with_reducible refine below_drewN ?_ _) | (with_reducible refine Below.alloc ?_ ?_ _) | (with_reducible refine Below.drew ?_) | (with_reducible refine Below.setCell ?_ ?_ _) | go_size))))).mono ?_; rintro e w1 ⟨rfl, hb⟩
  rw [h]
  go_wp2_with fail
  go_ret
  exact ⟨rfl, by (repeat' (first | (with_reducible exact Below.refl _ _) | (with_reducible assumption) | (with_reducible refine below_drewN ?_ _) | (with_reducible refine Below.alloc ?_ ?_ _) | (with_reducible refine Below.drew ?_) | (with_reducible refine Below.setCell ?_ ?_ _) | go_size))⟩
set_option maxHeartbeats 2000000 in
theorem opBack_walk (o a b : Int) (ho : -9223372036854775808 ≤ o ∧ o ≤ 9223372036854775807) (ha : -9223372036854775808 ≤ a ∧ a ≤ 9223372036854775807) (hb : -9223372036854775808 ≤ b ∧ b ≤ 9223372036854775807) (w : World) (hT : OTab w) :
    Calls Tryd.prog 5 #[.agg #[.int .i64 o, .int .i64 a, .int .i64 b]] w fun e w' => e = .returned (.bool true) ∧ Below w.heap.size w w' := by
  have hl := oLine_ba o a b
  have hk := okR_line (o := o) (a := a) (b := b)
  have hL := @op_Line o a b ha hb
  have hR := @op_Right o a b
  have hlen : ((oLl o a b).length : Int) ≤ 9223372036854775807 := by
    have z1 := oW_size o
    have z2 := prS_sz ha
    have z3 := prS_sz hb
    unfold oLl oLine
    split
    · unfold oPart
      have e1 : (oW o).data.size ≤ 10 := z1
      have e2 : (prS a).data.size ≤ 20 := z2
      have e3 : (prS b).data.size ≤ 20 := z3
      split <;> split <;> simp <;> omega
    · simp
  have hRd := @op_Read (oLl o a b) hlen
  have heq := eq_instr (a := o) (b := a) (c := b) (d := o) (f := a) (g := b)
  simp only [beq_self_eq_true, Bool.and_self] at heq
  rw [hl] at hL
  rw [hk] at hRd
  have cp := @cell_past
  cases hr : oRight o a b
  · have hno : oLl o a b = [] := oLl_no hr
    have q := rr_no (l := oLl o a b) (by rw [hk, hr])
    rw [q, q, q, hr, hno] at hRd
    rw [hr] at hR
    rw [hno] at hL
    clear q hk hl hno hlen
    go_enter Tryd.func5, Tryd.ntmps5
    go_wp2_with fail
    refine (hL _ (hT.below (by (repeat' (first | (with_reducible exact Below.refl _ _) | (with_reducible assumption) | (with_reducible refine more_below ?_ ?_ _ _) | (with_reducible refine below_drewN ?_ _) | (with_reducible refine Below.alloc ?_ ?_ _) | (with_reducible refine Below.drew ?_) | (with_reducible refine Below.setCell ?_ ?_ _) | (simp only [World.size_alloc, World.size_setCell, World.size_drew, more_size, World.heap_drewN]; omega) | go_size))))).mono ?_; rintro e W1 ⟨rfl, hb1⟩
    have c1 := C3.new _ o a b _ (by simpa using hb1)
    have hB1 : Below w.heap.size w W1 := Below.trans (by (repeat' (first | (with_reducible exact Below.refl _ _) | (with_reducible assumption) | (with_reducible refine below_drewN ?_ _) | (with_reducible refine Below.alloc ?_ ?_ _) | (with_reducible refine Below.drew ?_) | (with_reducible refine Below.setCell ?_ ?_ _) | go_size))) (hb1.mono (by simp))
    have hz1 : w.heap.size < W1.heap.size := by have := hb1.size; simp at this; omega
    clear hb1
    go_wp2_with fail
    refine (hRd _ (hT.below hB1)).mono ?_; rintro e W2 ⟨rfl, hb1⟩
    have c2 := c1.keep hz1 hb1
    have hB2 : Below w.heap.size w W2 := hB1.trans (hb1.mono hB1.size)
    have hz2 : w.heap.size < W2.heap.size := Nat.lt_of_lt_of_le hz1 hb1.size
    clear hb1 c1 hz1 hB1
    obtain ⟨k0, k1, k2⟩ := c2
    go_wp2_with fail
    refine (hR _ (hT.below (by (repeat' (first | (with_reducible exact Below.refl _ _) | (with_reducible assumption) | (with_reducible refine more_below ?_ ?_ _ _) | (with_reducible refine below_drewN ?_ _) | (with_reducible refine Below.alloc ?_ ?_ _) | (with_reducible refine Below.drew ?_) | (with_reducible refine Below.setCell ?_ ?_ _) | (simp only [World.size_alloc, World.size_setCell, World.size_drew, more_size, World.heap_drewN]; omega) | go_size))))).mono ?_; rintro e W3 ⟨rfl, hb1⟩
    have hB3 : Below w.heap.size w W3 := Below.trans (by (repeat' (first | (with_reducible exact Below.refl _ _) | (with_reducible assumption) | (with_reducible refine more_below ?_ ?_ _ _) | (with_reducible refine below_drewN ?_ _) | (with_reducible refine Below.alloc ?_ ?_ _) | (with_reducible refine Below.drew ?_) | (with_reducible refine Below.setCell ?_ ?_ _) | (simp only [World.size_alloc, World.size_setCell, World.size_drew, more_size, World.heap_drewN]; omega) | go_size))) (hb1.mono (by simp; omega))
    have hB23 : Below W2.heap.size W2 W3 := Below.trans (by (repeat' (first | (with_reducible exact Below.refl _ _) | (with_reducible assumption) | (with_reducible refine below_drewN ?_ _) | (with_reducible refine Below.alloc ?_ ?_ _) | (with_reducible refine Below.drew ?_) | (with_reducible refine Below.setCell ?_ ?_ _) | go_size))) (hb1.mono (by simp))
    have e3 := C3.new _ _ _ _ _ (by simpa using hb1)
    have c3 := C3.keep ⟨k0, k1, k2⟩ hz2 hB23
    have hz3 : W2.heap.size < W3.heap.size := by have := hb1.size; simp at this; omega
    have hz4 : w.heap.size < W3.heap.size := by omega
    clear hb1 k0 k1 k2 hB2 hB23
    obtain ⟨k0, k1, k2⟩ := c3
    have ha := law12_awake
    go_wp2_with fail
    refine (hR _ (hT.below hB3)).mono ?_; rintro e W4 ⟨rfl, hb1⟩
    have hB4 := hB3.trans (hb1.mono hB3.size)
    go_wp2_with fail
    refine (ha _ (hT.below hB4)).mono ?_; rintro e W5 ⟨rfl, hb5⟩
    have hB5 := hB4.trans (hb5.mono hB4.size)
    go_wp2_with fail
    go_ret
    exact ⟨rfl, hB5⟩
  · obtain ⟨h1, h2, h3, h4⟩ := rd_line hr
    have q := rr_yes (l := oLl o a b) (by rw [hk, hr])
    rw [q, q, q, hr, h1, h2, h3] at hRd
    rw [hr] at hR
    have hne : (oLl o a b).isEmpty = false := by simpa using h4
    clear q hk hl h1 h2 h3 h4
    go_enter Tryd.func5, Tryd.ntmps5
    go_wp2_with fail
    refine (hL _ (hT.below (by (repeat' (first | (with_reducible exact Below.refl _ _) | (with_reducible assumption) | (with_reducible refine more_below ?_ ?_ _ _) | (with_reducible refine below_drewN ?_ _) | (with_reducible refine Below.alloc ?_ ?_ _) | (with_reducible refine Below.drew ?_) | (with_reducible refine Below.setCell ?_ ?_ _) | (simp only [World.size_alloc, World.size_setCell, World.size_drew, more_size, World.heap_drewN]; omega) | go_size))))).mono ?_; rintro e W1 ⟨rfl, hb1⟩
    have c1 := C3.new _ o a b _ (by simpa using hb1)
    have hB1 : Below w.heap.size w W1 := Below.trans (by (repeat' (first | (with_reducible exact Below.refl _ _) | (with_reducible assumption) | (with_reducible refine below_drewN ?_ _) | (with_reducible refine Below.alloc ?_ ?_ _) | (with_reducible refine Below.drew ?_) | (with_reducible refine Below.setCell ?_ ?_ _) | go_size))) (hb1.mono (by simp))
    have hz1 : w.heap.size < W1.heap.size := by have := hb1.size; simp at this; omega
    clear hb1
    go_wp2_with fail
    refine (hRd _ (hT.below hB1)).mono ?_; rintro e W2 ⟨rfl, hb1⟩
    have c2 := c1.keep hz1 hb1
    have hB2 : Below w.heap.size w W2 := hB1.trans (hb1.mono hB1.size)
    have hz2 : w.heap.size < W2.heap.size := Nat.lt_of_lt_of_le hz1 hb1.size
    clear hb1 c1 hz1 hB1
    obtain ⟨k0, k1, k2⟩ := c2
    go_wp2_with fail
    refine (hR _ (hT.below (by (repeat' (first | (with_reducible exact Below.refl _ _) | (with_reducible assumption) | (with_reducible refine more_below ?_ ?_ _ _) | (with_reducible refine below_drewN ?_ _) | (with_reducible refine Below.alloc ?_ ?_ _) | (with_reducible refine Below.drew ?_) | (with_reducible refine Below.setCell ?_ ?_ _) | (simp only [World.size_alloc, World.size_setCell, World.size_drew, more_size, World.heap_drewN]; omega) | go_size))))).mono ?_; rintro e W3 ⟨rfl, hb1⟩
    have hB3 : Below w.heap.size w W3 := Below.trans (by (repeat' (first | (with_reducible exact Below.refl _ _) | (with_reducible assumption) | (with_reducible refine more_below ?_ ?_ _ _) | (with_reducible refine below_drewN ?_ _) | (with_reducible refine Below.alloc ?_ ?_ _) | (with_reducible refine Below.drew ?_) | (with_reducible refine Below.setCell ?_ ?_ _) | (simp only [World.size_alloc, World.size_setCell, World.size_drew, more_size, World.heap_drewN]; omega) | go_size))) (hb1.mono (by simp; omega))
    have hB23 : Below W2.heap.size W2 W3 := Below.trans (by (repeat' (first | (with_reducible exact Below.refl _ _) | (with_reducible assumption) | (with_reducible refine below_drewN ?_ _) | (with_reducible refine Below.alloc ?_ ?_ _) | (with_reducible refine Below.drew ?_) | (with_reducible refine Below.setCell ?_ ?_ _) | go_size))) (hb1.mono (by simp))
    have e3 := C3.new _ _ _ _ _ (by simpa using hb1)
    have c3 := C3.keep ⟨k0, k1, k2⟩ hz2 hB23
    have hz3 : W2.heap.size < W3.heap.size := by have := hb1.size; simp at this; omega
    have hz4 : w.heap.size < W3.heap.size := by omega
    clear hb1 k0 k1 k2 hB2 hB23
    obtain ⟨k0, k1, k2⟩ := c3
    have ha := law12_awake
    go_wp2_with fail
    refine (hR _ (hT.below hB3)).mono ?_; rintro e W4 ⟨rfl, hb1⟩
    have hB4 := hB3.trans (hb1.mono hB3.size)
    have e4 := e3.keep hz3 hb1
    have c4 := C3.keep ⟨k0, k1, k2⟩ hz4 hb1
    clear k0 k1 k2 e3
    obtain ⟨k0, k1, k2⟩ := c4
    obtain ⟨l0, l1, l2⟩ := e4
    go_wp2_with fail
    refine (ha _ (hT.below hB4)).mono ?_; rintro e W5 ⟨rfl, hb5⟩
    have hB5 := hB4.trans (hb5.mono hB4.size)
    go_wp2_with fail
    go_ret
    exact ⟨rfl, hB5⟩
end Go.Proofs.YtmjhjcfjgefdiaaDoor
