/- Layer 31: does the program answer at all? -/
import Derived.Test.YtemihfcenmhieaaDmIdom
import Derived.Test.YtemihfcenmhieaaDmUp
namespace Go.Proofs.Ytemihfcenmhieaa
open Go.RowKit
set_option linter.unusedSimpArgs false
set_option linter.unusedVariables false
open DM (rowN okN orun gI Fine rkF prF settleF)
theorem grid_of {w : World} {b : Nat} {next : List (List Int)} (h0 : 0 < next.length) (hm : next.length ≤ maxLen) (hb : b < w.heap.size) (h : ∀ i l, next[i]? = some l → ∃ u, w.cell? ⟨b, i, none⟩ = some u ∧ RowR 1 intR w u l) :
    RowR 1 gridR w (.slice (some ⟨b, 0, none⟩) next.length next.length) next := by
  refine Or.inr ⟨b, 0, next.length, rfl, h0, Nat.le_refl _, hm, hb, fun i l hl => ?_⟩
  obtain ⟨u, hc, hr⟩ := h i l hl
  refine ⟨[u], rfl, fun j x hx => ?_, u, rfl, hr⟩
  cases j with
  | zero => cases hx; simpa using hc
  | succ j => simp at hx
def awN : List (List Int) := [[1, 2], [3], [3], []]
theorem aw_order : orun awN 20 [(0, 0)] ((List.replicate awN.length false).set 0 true) [] = some [3, 1, 2, 0] := by decide
theorem aw_idom : settleF (prF awN [0, 2, 1, 3] (List.replicate awN.length [])) (rkF [0, 2, 1, 3] 0 (List.replicate awN.length 0)) 8 [0, 2, 1, 3] 5 (List.replicate awN.length (-1)) = some [-1, 0, 0, 0] := by decide
set_option maxHeartbeats 2000000 in
theorem law31_awake (w : World) : Calls Try.prog 7 #[] w fun r w' => r = .returned (.bool true) ∧ Below w.heap.size w w' := by
  obtain ⟨W1, hW1⟩ : ∃ W, W = (((w.alloc (.cells #[.int .i64 1, .int .i64 2] 3)).alloc (.cells #[.int .i64 3] 3)).alloc (.cells #[.int .i64 3] 3)).alloc (.cells #[.slice (some ⟨w.heap.size, 0, none⟩) 2 2, .slice (some ⟨w.heap.size + 1, 0, none⟩) 1 1, .slice (some ⟨w.heap.size + 1 + 1, 0, none⟩) 1 1, .slice none 0 0] 26) := ⟨_, rfl⟩
  have o0 : W1.heap[w.heap.size]? = some (.cells #[.int .i64 1, .int .i64 2] 3) := by rw [hW1, get_past (by simp; omega), get_past (by simp; omega), get_past (by simp)]; exact get_last rfl
  have o1 : W1.heap[w.heap.size + 1]? = some (.cells #[.int .i64 3] 3) := by rw [hW1, get_past (by simp), get_past (by simp)]; exact get_last (by simp)
  have o2 : W1.heap[w.heap.size + 1 + 1]? = some (.cells #[.int .i64 3] 3) := by rw [hW1, get_past (by simp)]; exact get_last (by simp)
  have o3 : W1.heap[w.heap.size + 1 + 1 + 1]? = some (.cells #[.slice (some ⟨w.heap.size, 0, none⟩) 2 2, .slice (some ⟨w.heap.size + 1, 0, none⟩) 1 1, .slice (some ⟨w.heap.size + 1 + 1, 0, none⟩) 1 1, .slice none 0 0] 26) := by rw [hW1]; exact get_last (by simp)
  have hb : Below w.heap.size w W1 := by rw [hW1]; exact by (repeat' (first | (with_reducible exact Below.refl _ _) | (with_reducible assumption) | (with_reducible refine below_drewN ?_ _) | (with_reducible refine Below.alloc ?_ ?_ _) | (with_reducible refine Below.drew ?_) | (with_reducible refine Below.setCell ?_ ?_ _) | go_size))
  have i3 : I64 3 := by unfold I64; omega
  have hG : RowR 1 gridR W1 (.slice (some ⟨w.heap.size + 1 + 1 + 1, 0, none⟩) 4 4) awN := grid_of (next := awN) (by decide) (by unfold maxLen; decide) (heap_lt o3) (fun i l hl => by
    match i, hl with
    | 0, hl => cases hl; exact ⟨_, obj_cell o3 (i := 0) rfl, row_cells2 (obj_cell o0 (i := 0) rfl) (obj_cell o0 (i := 1) rfl) (by unfold I64; omega) (by unfold I64; omega)⟩
    | 1, hl => cases hl; exact ⟨_, obj_cell o3 (i := 1) rfl, row_cells1 (obj_cell o1 (i := 0) rfl) i3⟩
    | 2, hl => cases hl; exact ⟨_, obj_cell o3 (i := 2) rfl, row_cells1 (obj_cell o2 (i := 0) rfl) i3⟩
    | 3, hl => cases hl; exact ⟨_, obj_cell o3 (i := 3) rfl, row_none⟩
    | n + 4, hl => simp [awN] at hl)
  have HI := Lib.hid (dom_Idom _ awN W1 hG (by decide) (by decide) 20 [3, 1, 2, 0] (.inr ⟨by decide, aw_order⟩) (by decide) (by decide) 5 8 [-1, 0, 0, 0] aw_idom)
  have HW1 := Lib.hid hW1
  have HB := Lib.hid hb
  clear hW1 o0 o1 o2 o3 hb hG i3
  go_enter Try.func7, Try.ntmps7
  go_wp2_with fail
  rw [← HW1.out]
  refine HI.out.mono ?_; rintro r w2 ⟨u, rfl, hO, hb, _, _⟩
  obtain ⟨a, c, rfl⟩ := owns_form hO
  rcases hO.2 with ⟨h, h0⟩ | ⟨g, cap, cur, h, hBg, hg, hnc, hcm, hcs, htake⟩
  · simp [awN] at h0
  · cases h
    have c0 := owns_iV_at hO (j := 0) (by decide)
    have c3 := owns_iV_at hO (j := 3) (by decide)
    have HBB := Lib.hid (HB.out.trans (hb.mono HB.out.size))
    have c0 : w2.cell? ⟨g, 0, none⟩ = some (.int .i64 (-1)) := c0
    have c3 : w2.cell? ⟨g, 3, none⟩ = some (.int .i64 0) := c3
    have hnc : 4 ≤ c := hnc
    have hcm : c ≤ 9223372036854775807 := hcm
    have hl4 : awN.length = 4 := rfl
    rw [hl4]
    clear hO hb hg hcs htake HI hBg hl4
    go_wp2_with fail
    go_ret
    exact ⟨rfl, HBB.out⟩
end Go.Proofs.Ytemihfcenmhieaa
