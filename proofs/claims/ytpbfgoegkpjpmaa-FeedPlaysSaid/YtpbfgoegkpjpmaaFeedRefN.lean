/- Layer 51: the plain feed: the next number. -/
import Derived.Test.YtpbfgoegkpjpmaaFeedRef
namespace Go.Proofs.Ytpbfgoegkpjpmaa
open Go.RowKit
set_option linter.unusedSimpArgs false
set_option linter.unusedVariables false
theorem ref51_Next_none (q : Nat) (x y : Value) (a : Option Addr) (c : Nat) (w : World) (h : w.heap[q]? = some (.cells #[x, .slice a 0 c, y] 41)) :
    Calls Try.prog 11 #[.pointer (some ⟨q, 0, none⟩)] w fun e w' => e = .returned (.int .i64 (-1)) ∧ w' = w := by
  have c1 := obj_cell h (i := 1) rfl
  go_enter Try.func11, Try.ntmps11
  go_wp2_with fail
  go_ret
  exact ⟨rfl, rfl⟩
theorem ref51_Next_some (q B n : Nat) (x y : Value) (v : Value) (xs : List Value) (j : Int) (w : World) (hB : B ≤ w.heap.size) (hq : B ≤ q)
    (h : w.heap[q]? = some (.cells #[x, v, y] 41)) (hO : w.ownsRow B 3 1 v (n + 1) (.int .i64 j :: xs)) (hc : n ≤ 100) (h1 : ∀ u ∈ xs, u.oneCell' = true) :
    Calls Try.prog 11 #[.pointer (some ⟨q, 0, none⟩)] w fun e w' => e = .returned (.int .i64 j) ∧ ∃ v', w'.ownsRow w.heap.size 3 1 v' n xs ∧ w'.heap[q]? = some (.cells #[x, v', y] 41) ∧ (∀ g, g < w.heap.size → g ≠ q → w'.heap[g]? = w.heap[g]?) ∧ Below B w w' := by
  obtain ⟨i, hi, hz, hsize, hby⟩ : ∃ i, Try.prog.info? 3 = some i ∧ i.zero = some (.int .i64 0) ∧ i.size = 1 ∧ i.bytes = 8 := ⟨(Try.prog.info? 3).get!, by kernel_rfl, by kernel_rfl, by kernel_rfl, by kernel_rfl⟩
  have hl : xs.length = n := by have := hO.1; simp at this; omega
  rcases hO.2 with ⟨_, h0⟩ | ⟨g, c, cur, rfl, hg0, hg, hn1, hcm, hcs, htk⟩
  · omega
  have hcell : ∀ k u, (Value.int .i64 j :: xs)[k]? = some u → w.cell? ⟨g, k, none⟩ = some u := by
    intro k u hu
    have hk : k < (n + 1) := by have := lt_of_get hu; simp at this; omega
    rw [← htk, List.getElem?_take, if_pos (by omega)] at hu
    unfold World.cell?
    rw [show (⟨g, k, none⟩ : Addr).block = g from rfl, hg]
    simpa using hu
  have hql : q < w.heap.size := World.block_lt_of_cell? _ _ (obj_cell h (i := 0) rfl)
  have c1 := obj_cell h (i := 1) rfl
  have e0 := hcell 0 _ rfl
  have hgl : g < w.heap.size := World.block_lt_of_cell? _ _ e0
  obtain ⟨W1, hW1⟩ : ∃ W1, W1 = w.alloc (.cells #[] 3) := ⟨_, rfl⟩
  have hB1 : Below w.heap.size w W1 := by rw [hW1]; exact by (repeat' (first | (with_reducible exact Below.refl _ _) | (with_reducible assumption) | (with_reducible refine below_drewN ?_ _) | (with_reducible refine Below.alloc ?_ ?_ _) | (with_reducible refine Below.drew ?_) | (with_reducible refine Below.setCell ?_ ?_ _) | go_size))
  have hz1 : W1.heap.size = w.heap.size + 1 := by rw [hW1]; simp
  have hE : W1.ownsRow w.heap.size 3 1 (.slice (some ⟨w.heap.size, 0, none⟩) 0 0) 0 [] := by rw [hW1]; exact owns_empty w _ 1 (Nat.le_refl _)
  have hsrc : Src W1 (.slice (if c = 1 then some ⟨g, 0, none⟩ else some ⟨g, 1, none⟩) n (c - 1)) n xs := by
    by_cases hc1 : c = 1
    · rw [if_pos hc1]
      obtain rfl : n = 0 := by omega
      exact Or.inr ⟨_, _, rfl, fun k u hu => by rw [List.length_eq_zero_iff.1 hl] at hu; simp at hu⟩
    · rw [if_neg hc1]
      exact Or.inr ⟨_, _, rfl, fun k u hu => by rw [add_at]; exact (hB1.cell (p := ⟨g, 1 + k, none⟩) hgl).trans (hcell (1 + k) u (by rw [Nat.add_comm]; simpa using hu))⟩
  have HE := Lib.hid hE
  have HS := Lib.hid hsrc
  have HW1 := Lib.hid hW1
  have hj1 := Lib.hid (obj_below h hB1 hql)
  have HB1 := Lib.hid hB1
  have c1' := obj_cell hj1.out (i := 1) rfl
  have HL := Lib.hid hl
  have HO := Lib.hid h1
  clear hE hsrc hW1 hB1 hcell htk hcs hg hO hl h h1
  go_enter Try.func11, Try.ntmps11
  go_wp2_with (first | (at_builtin; rw [← HW1.out]; go_loud (refine wpList_append_src rfl (.tmp 17) (.tmp 22) 28 rfl w.heap.size 3 i (.int .i64 0) 1 8 Try.underlying28 hi hz hsize hby rfl (by omega) _ 0 [] rfl HE.out _ n xs rfl HS.out (by rw [HL.out]; omega) HO.out (by unfold maxLen; omega) (by omega) (by omega) ?_); intro v2 W2 hO2 hG2; refine stop_here ?_) | fail)
  all_goals
    unfold Stop
    have hB2 := grown3 (show Below w.heap.size w W1 from HB1.out) (by omega) HE.out hG2
    have hO2 := own_eq2 (m := n) (ys := xs) hO2 (by omega) (by simp)
    have hH2 := (hG2.block q (by omega) (fun e => by have := (owns_lt HE.out e.symm).1; omega)).trans hj1.out
    obtain ⟨a2, cc2, rfl⟩ := owns_form hO2
    have z1 := obj_frozen hH2 1
    have d1 := obj_cell hH2 (i := 1) rfl
    have hv2q : (Value.slice a2 n cc2).ownBlock ≠ some q := fun e => by have := (owns_lt hO2 e).1; omega
    have hO3 := Lib.hid (owns_set (g := q) (o := 1) (x := .slice a2 n cc2) hO2 hv2q)
    have hH3 := Lib.hid (obj_self (i := 1) (x := .slice a2 n cc2) hH2)
    have HB2 := Lib.hid hB2
    clear hO2 hG2 hH2 hB2
    go_wp2_with fail
    go_ret
    refine ⟨rfl, _, hO3.out, hH3.out, ?_, ?_⟩
    · intro g hg hgq
      rw [get_set (by simpa using fun e => hgq e.symm)]
      exact HB2.out.block g hg
    · exact (HB2.out.mono hB).setCell (p := ⟨q, 1, none⟩) hq _
end Go.Proofs.Ytpbfgoegkpjpmaa
