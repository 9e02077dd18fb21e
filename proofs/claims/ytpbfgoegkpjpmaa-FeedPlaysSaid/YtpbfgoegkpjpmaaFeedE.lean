/- Layer 51: nothing is told of an empty feed; the program answers. -/
import Derived.Test.YtpbfgoegkpjpmaaFeedD
namespace Go.Proofs.Ytpbfgoegkpjpmaa
open Go.RowKit Go.Conc
set_option linter.unusedSimpArgs false
set_option linter.unusedVariables false
set_option maxHeartbeats 4000000 in
theorem feed_Next_none (p c cap : Nat) (x : Int) (w : World) (h : FeedAt w p c cap #[] x) :
    Calls Try.prog 10 #[.pointer (some ⟨p, 0, none⟩)] w fun e w' => e = .returned (.tuple #[.agg #[.slice none 0 0, .int .i64 0], .bool false]) ∧ Below w.heap.size w w' := by
  have hpl : p < w.heap.size := World.block_lt_of_cell? _ _ (obj_cell h.obj (i := 0) rfl)
  obtain ⟨s, r, hch⟩ := h.chan
  have hcl : c < w.heap.size := by
    by_cases hcl : c < w.heap.size
    · exact hcl
    · rw [Array.getElem?_eq_none (Nat.le_of_not_lt hcl)] at hch; cases hch
  obtain ⟨W1, hW1⟩ : ∃ W1, W1 = w.alloc (.cells #[.slice none 0 0, .int .i64 0] 30) := ⟨_, rfl⟩
  have hB1 : Below w.heap.size w W1 := by rw [hW1]; exact by (repeat' (first | (with_reducible exact Below.refl _ _) | (with_reducible assumption) | (with_reducible refine below_drewN ?_ _) | (with_reducible refine Below.alloc ?_ ?_ _) | (with_reducible refine Below.drew ?_) | (with_reducible refine Below.setCell ?_ ?_ _) | go_size))
  have hj1 : W1.heap[w.heap.size]? = some (.cells #[.slice none 0 0, .int .i64 0] 30) := by rw [hW1]; exact get_last rfl
  have hobj1 := obj_below h.obj hB1 hpl
  have hch1 : W1.heap[c]? = some (.chan cap #[] false s r false) := obj_below hch hB1 hcl
  have a0 := obj_cell hobj1 (i := 0) rfl
  have HW1 := Lib.hid hW1
  have z0 := obj_frozen hj1 0
  have d0 := obj_cell hj1 (i := 0) rfl
  have d1 := obj_cell hj1 (i := 1) rfl
  have k1 := obj_self (i := 0) (x := .slice none 0 0) hj1
  have z1 := obj_frozen k1 1
  have k2 := obj_self (i := 1) (x := .int .i64 0) k1
  have e0 := obj_cell k2 (i := 0) rfl
  have e1 := obj_cell k2 (i := 1) rfl
  clear hW1 k1 k2
  go_enter Try.func10, Try.ntmps10
  go_upto_region 1 with fail
  rw [← HW1.out]
  go_upto_region 4 with fail
  refine wp_select_none (c := c) (z := .agg #[.slice none 0 0, .int .i64 0]) (by rfl) (by simp [go_sem, execOp, rcase, Act.eval]) hch1 ?_
  go_wp2_with fail
  refine bodyPost_ret (by simp [results, Try.results10, go_sem, e0, e1]; try rfl) rfl ?_
  exact ⟨rfl, (hB1.setCell (p := ⟨w.heap.size, 0, none⟩) (Nat.le_refl _) _).setCell (p := ⟨w.heap.size, 1, none⟩) (Nat.le_refl _) _⟩
theorem FeedAt.keep {w w' : World} {p c cap : Nat} {buf : Array Value} {x : Int} (h : FeedAt w p c cap buf x) (hb : Below w.heap.size w w') : FeedAt w' p c cap buf x := by
  have hpl : p < w.heap.size := World.block_lt_of_cell? _ _ (obj_cell h.obj (i := 0) rfl)
  obtain ⟨s, r, hch⟩ := h.chan
  have hcl : c < w.heap.size := by
    by_cases hcl : c < w.heap.size
    · exact hcl
    · rw [Array.getElem?_eq_none (Nat.le_of_not_lt hcl)] at hch; cases hch
  exact ⟨obj_below h.obj hb hpl, s, r, obj_below hch hb hcl⟩
theorem grown_low {B : Nat} {w w1 w2 : World} {c : Nat} (h : Below B w w1) (hg : w1.grownBy w2 (some c)) (hc : B ≤ c) (hB : B ≤ w1.heap.size) : Below B w w2 :=
  h.trans ⟨hg.os, hg.tape, hg.output, hg.size, fun k hk => hg.block k (by omega) (fun e => by injection e; omega)⟩
set_option maxHeartbeats 4000000 in
theorem law51_awake (w : World) : Calls Try.prog 5 #[] w fun e w' => e = .returned (.bool true) ∧ Below w.heap.size w w' := by
  have hN := feed_New 1 w (by unfold I64; omega)
  go_enter Try.func5, Try.ntmps5
  go_wp2_with fail
  refine hN.mono ?_; rintro e w1 ⟨p, c, rfl, hp, hc, hF, hb⟩
  go_wp2_with fail
  have hF : FeedAt w1 p c 1 #[] 0 := hF
  refine (feed_Offer_room p c 1 #[] (.slice none 0 0) [] 4 w1 hF (by simp) row_none (by simp)).mono ?_; rintro e w2 ⟨r, rfl, _, hF2, hG⟩
  have hB2 := Lib.hid (grown_low hb hG hc hb.size)
  go_wp2_with fail
  refine (feed_Offer_full p c 1 _ (.slice none 0 0) [] 0 w2 hF2 (by simp) row_none (by simp)).mono ?_; rintro e w3 ⟨rfl, hb3⟩
  go_wp2_with fail
  refine (feed_Len p c 1 _ 0 w3 (hF2.keep hb3)).mono ?_; rintro e w4 ⟨rfl, rfl⟩
  go_wp2_with fail
  go_ret
  exact ⟨rfl, hB2.out.trans (hb3.mono hB2.out.size)⟩
end Go.Proofs.Ytpbfgoegkpjpmaa
