/- Layer 24: the law's awake. -/
import Derived.Test.YtpnnmhcemecjfaaCyBegin
import Derived.Test.YtpnnmhcemecjfaaBoxed
namespace Go.Proofs.Ytpnnmhcemecjfaa
open Go.RowKit
set_option linter.unusedSimpArgs false
set_option linter.unusedVariables false
theorem row_lit1 {w : World} {b : Nat} {z : Int} (h : w.cell? ⟨b, 0, none⟩ = some (.int .i64 z)) (hz : I64 z) : RowR 1 intR w (.slice (some ⟨b, 0, none⟩) 1 1) [z] := row_cells1 h hz
set_option maxHeartbeats 4000000 in
theorem law24_awake (w : World) : Calls Try.prog 7 #[] w fun e w' => e = .returned (.bool true) ∧ Below w.heap.size w w' := by
  obtain ⟨W0, hW0⟩ : ∃ W0, W0 = ((((w.alloc (.cells #[.string ⟨#[]⟩, .int .i64 1, .int .i64 1, .int .i64 1, .int .i64 0] 47)).alloc (.cells #[.int .i64 0] 3)).alloc (.cells #[.slice (some ⟨w.heap.size + 1, 0, none⟩) 1 1] 32)).alloc (.cells #[.int .i64 5] 3)) := ⟨_, rfl⟩
  have hb0 : Below w.heap.size w W0 := by rw [hW0]; exact by (repeat' (first | (with_reducible exact Below.refl _ _) | (with_reducible assumption) | (with_reducible refine below_drewN ?_ _) | (with_reducible refine Below.alloc ?_ ?_ _) | (with_reducible refine Below.drew ?_) | (with_reducible refine Below.setCell ?_ ?_ _) | go_size))
  have z0 : W0.heap.size = w.heap.size + 4 := by rw [hW0]; simp
  have i1 : ∀ z : Int, 0 ≤ z ∧ z ≤ 40 → I64 z := fun z hz => by unfold I64; omega
  have hV : RowR 5 varR W0 (.slice (some ⟨w.heap.size, 0, none⟩) 1 1) [⟨[], 1, 1, 1, 0⟩] := by
    refine Or.inr ⟨w.heap.size, 0, 1, rfl, by simp, by simp, by unfold maxLen; omega, by omega, fun i x hx => ?_⟩
    have hi : i < 1 := lt_of_get hx
    obtain rfl : i = 0 := by omega
    obtain rfl : (⟨[], 1, 1, 1, 0⟩ : Vr) = x := by simpa using hx
    refine ⟨[.string ⟨#[]⟩, .int .i64 1, .int .i64 1, .int .i64 1, .int .i64 0], rfl, fun j u hu => ?_, rfl, by unfold sz; simp, i1 _ (by decide), i1 _ (by decide), i1 _ (by decide), i1 _ (by decide)⟩
    rw [hW0, cell_past (by simp; omega), cell_past (by simp; omega), cell_past (by simp), cell_at rfl]
    simpa using hu
  have hS : StAt W0 (.slice (some ⟨w.heap.size + 1 + 1, 0, none⟩) 1 1) (.slice none 0 0) ⟨[[0]], [], 0, 0⟩ := by
    refine ⟨?_, row_none, i1 _ (by decide), i1 _ (by decide)⟩
    refine Or.inr ⟨w.heap.size + 1 + 1, 0, 1, rfl, by simp, by simp, by unfold maxLen; omega, by omega, fun i x hx => ?_⟩
    have hi : i < 1 := lt_of_get hx
    obtain rfl : i = 0 := by omega
    obtain rfl : [0] = x := by simpa using hx
    refine ⟨[.slice (some ⟨w.heap.size + 1, 0, none⟩) 1 1], rfl, fun j u hu => ?_, _, rfl, row_cells1 (z := 0) ?_ (i1 _ (by decide))⟩
    · have hj : j < 1 := lt_of_get hu
      obtain rfl : j = 0 := by omega
      obtain rfl : Value.slice (some ⟨w.heap.size + 1, 0, none⟩) 1 1 = u := by simpa using hu
      rw [hW0, cell_past (by simp), cell_at (by simp)]; rfl
    · rw [hW0, cell_past (by simp), cell_past (by simp), cell_at (by simp)]; rfl
  have hI : RowR 1 intR W0 (.slice (some ⟨w.heap.size + 1 + 1 + 1, 0, none⟩) 1 1) [5] := row_cells1 (z := 5) (by rw [hW0, cell_at (by simp)]; rfl) (i1 _ (by decide))
  have hbg : begS [⟨[], 1, 1, 1, 0⟩] [5] ⟨[[0]], [], 0, 0⟩ 7 = ⟨[[1]], [], 7, 0⟩ := by
    have e : kWrap 1 5 = 1 := rfl
    simp [begS, begF, fillTo, setS, inAt, laterF, e]
  have H0 := cycle_Begin _ _ _ _ _ _ _ 7 W0 hV hS (by decide) hI (by decide) (by decide) (i1 _ (by decide))
  rw [hbg] at H0
  have H0 := Lib.hid H0
  have HW0 := Lib.hid hW0
  clear hV hS hI hW0 hbg
  go_enter Try.func7, Try.ntmps7
  go_wp2_with fail
  rw [← HW0.out]
  refine H0.out.mono ?_; rintro e W1 ⟨v', b', rfl, hs, hb1⟩
  have hv := hs.vs
  obtain ⟨sr, cr, rfl⟩ : ∃ a cap, v' = .slice a 1 cap := row_get hs.vs
  obtain ⟨b, off, rfl, hbw, hc⟩ := rows_at hv (k := 0) (by decide)
  obtain ⟨u, c0, hu⟩ := hc 0 [1] rfl
  obtain ⟨s2, cr2, rfl⟩ : ∃ a cap, u = .slice a 1 cap := row_get hu
  obtain ⟨b2, off2, rfl, hbw2, hd⟩ := ints_at hu (k := 0) (by decide)
  obtain ⟨d0, _⟩ := hd 0 1 rfl
  obtain ⟨s3, cr3, rfl⟩ : ∃ a cap, b' = .slice a 0 cap := row_get hs.bs
  have c0 : W1.cell? ⟨b, off, none⟩ = some (.slice (some ⟨b2, off2, none⟩) 1 cr2) := c0
  have d0 : W1.cell? ⟨b2, off2, none⟩ = some (.int .i64 1) := d0
  have y1 : b < W1.heap.size := hbw
  have y2 : b2 < W1.heap.size := hbw2
  have hl : laterF 0 7 = 7 := rfl
  clear hc hd hu hv hs
  have hB1 := hb0.trans (hb1.mono hb0.size)
  have cp := @cell_past
  go_wp2_with fail
  go_ret
  exact ⟨rfl, hB1.trans ((show Below W1.heap.size W1 _ by (repeat' (first | (with_reducible exact Below.refl _ _) | (with_reducible assumption) | (with_reducible refine below_drewN ?_ _) | (with_reducible refine Below.alloc ?_ ?_ _) | (with_reducible refine Below.drew ?_) | (with_reducible refine Below.setCell ?_ ?_ _) | go_size))).mono hB1.size)⟩
end Go.Proofs.Ytpnnmhcemecjfaa
