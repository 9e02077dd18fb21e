/- Layer 51: what is offered, and what is told. -/
import Derived.Test.YtpbfgoegkpjpmaaFeedB
import Derived.Test.YtpbfgoegkpjpmaaSelect
import Derived.Deep.Cut
import Derived.Deep.CutRange
namespace Go.Proofs.Ytpbfgoegkpjpmaa
open Go.RowKit Go.Conc
set_option linter.unusedSimpArgs false
set_option linter.unusedVariables false
set_option maxHeartbeats 4000000 in
theorem feed_Offer_room (p c cap : Nat) (buf : Array Value) (v : Value) (L : List Int) (n : Int) (w : World) (h : FeedAt w p c cap buf 0) (hroom : buf.size < cap) (hv : RowR 1 intR w v L) (hL : L.length ≤ 100) :
    Calls Try.prog 8 #[.pointer (some ⟨p, 0, none⟩), .agg #[v, .int .i64 n]] w fun e w' => ∃ r : Value, e = .returned (.bool true) ∧ w'.ownsRow w.heap.size 3 1 r L.length (iV L) ∧ FeedAt w' p c cap (buf.push (.agg #[r, .int .i64 n])) 0 ∧ w.grownBy w' (some c) := by
  have hpl : p < w.heap.size := World.block_lt_of_cell? _ _ (obj_cell h.obj (i := 0) rfl)
  obtain ⟨s, r, hch⟩ := h.chan
  have hpc : p ≠ c := by
    intro e
    rw [← e, h.obj] at hch
    cases hch
  have hcl : c < w.heap.size := by
    by_cases hcl : c < w.heap.size
    · exact hcl
    · rw [Array.getElem?_eq_none (Nat.le_of_not_lt hcl)] at hch; cases hch
  obtain ⟨W1, hW1⟩ : ∃ W1, W1 = w.alloc (.cells #[v, .int .i64 n] 30) := ⟨_, rfl⟩
  have hB1 : Below w.heap.size w W1 := by rw [hW1]; exact by (repeat' (first | (with_reducible exact Below.refl _ _) | (with_reducible assumption) | (with_reducible refine below_drewN ?_ _) | (with_reducible refine Below.alloc ?_ ?_ _) | (with_reducible refine Below.drew ?_) | (with_reducible refine Below.setCell ?_ ?_ _) | go_size))
  have hsz1 : W1.heap.size = w.heap.size + 1 := by rw [hW1]; simp
  have hj1 : W1.heap[w.heap.size]? = some (.cells #[v, .int .i64 n] 30) := by rw [hW1]; exact get_last rfl
  have hobj1 := obj_below h.obj hB1 hpl
  have hL1 := bool_Load p 0 W1 (obj_cell hobj1 (i := 1) rfl)
  have hown := feed_own v L n W1 (hv.below intR_stable hB1) hL
  have b0 := obj_cell hj1 (i := 0) rfl
  have b1 := obj_cell hj1 (i := 1) rfl
  have a0 := obj_cell hobj1 (i := 0) rfl
  have HW1 := Lib.hid hW1
  clear hW1
  go_enter Try.func8, Try.ntmps8
  go_wp2_with fail
  rw [← HW1.out]
  refine hL1.mono ?_; rintro e w1 ⟨rfl, rfl⟩
  go_wp2_with fail
  refine hown.mono ?_; rintro e w2 ⟨rv, rfl, hO2, hB2⟩
  go_upto_region 5 with fail
  have hch2 : w2.heap[c]? = some (.chan cap buf false s r false) := obj_below hch ((hB1.trans (hB2.mono hB1.size))) hcl
  have hobj2 := obj_below hobj1 hB2 (by omega)
  have HBw := Lib.hid (hB1.trans (hB2.mono hB1.size))
  refine wp_select_send (c := c) (z' := .agg #[.slice none 0 0, .int .i64 0]) (v := .agg #[rv, .int .i64 n]) (by rfl) (by simp [go_sem, execOp, scase, Act.eval]) hch2 hroom ?_
  have K1 := heap_setChan w2 c cap (buf.push (.agg #[rv, .int .i64 n])) false (s + 1) r false (Nat.lt_of_lt_of_le hcl HBw.out.size)
  go_wp2_with fail
  go_ret
  exact ⟨rv, rfl, owns_congr (own_low hO2 (by omega)) (fun g hg => get_setChan (by omega)), ⟨(get_setChan hpc).trans hobj2, _, _, K1⟩, grown_setChan HBw.out⟩
set_option maxHeartbeats 4000000 in
theorem feed_Offer_full (p c cap : Nat) (buf : Array Value) (v : Value) (L : List Int) (n : Int) (w : World) (h : FeedAt w p c cap buf 0) (hfull : cap ≤ buf.size) (hv : RowR 1 intR w v L) (hL : L.length ≤ 100) :
    Calls Try.prog 8 #[.pointer (some ⟨p, 0, none⟩), .agg #[v, .int .i64 n]] w fun e w' => e = .returned (.bool false) ∧ Below w.heap.size w w' := by
  have hpl : p < w.heap.size := World.block_lt_of_cell? _ _ (obj_cell h.obj (i := 0) rfl)
  obtain ⟨s, r, hch⟩ := h.chan
  have hpc : p ≠ c := by
    intro e
    rw [← e, h.obj] at hch
    cases hch
  have hcl : c < w.heap.size := by
    by_cases hcl : c < w.heap.size
    · exact hcl
    · rw [Array.getElem?_eq_none (Nat.le_of_not_lt hcl)] at hch; cases hch
  obtain ⟨W1, hW1⟩ : ∃ W1, W1 = w.alloc (.cells #[v, .int .i64 n] 30) := ⟨_, rfl⟩
  have hB1 : Below w.heap.size w W1 := by rw [hW1]; exact by (repeat' (first | (with_reducible exact Below.refl _ _) | (with_reducible assumption) | (with_reducible refine below_drewN ?_ _) | (with_reducible refine Below.alloc ?_ ?_ _) | (with_reducible refine Below.drew ?_) | (with_reducible refine Below.setCell ?_ ?_ _) | go_size))
  have hsz1 : W1.heap.size = w.heap.size + 1 := by rw [hW1]; simp
  have hj1 : W1.heap[w.heap.size]? = some (.cells #[v, .int .i64 n] 30) := by rw [hW1]; exact get_last rfl
  have hobj1 := obj_below h.obj hB1 hpl
  have hL1 := bool_Load p 0 W1 (obj_cell hobj1 (i := 1) rfl)
  have hown := feed_own v L n W1 (hv.below intR_stable hB1) hL
  have b0 := obj_cell hj1 (i := 0) rfl
  have b1 := obj_cell hj1 (i := 1) rfl
  have a0 := obj_cell hobj1 (i := 0) rfl
  have HW1 := Lib.hid hW1
  clear hW1
  go_enter Try.func8, Try.ntmps8
  go_wp2_with fail
  rw [← HW1.out]
  refine hL1.mono ?_; rintro e w1 ⟨rfl, rfl⟩
  go_wp2_with fail
  refine hown.mono ?_; rintro e w2 ⟨rv, rfl, hO2, hB2⟩
  go_upto_region 5 with fail
  have hch2 : w2.heap[c]? = some (.chan cap buf false s r false) := obj_below hch ((hB1.trans (hB2.mono hB1.size))) hcl
  have hobj2 := obj_below hobj1 hB2 (by omega)
  have HBw := Lib.hid (hB1.trans (hB2.mono hB1.size))
  refine wp_select_full (c := c) (z' := .agg #[.slice none 0 0, .int .i64 0]) (v := .agg #[rv, .int .i64 n]) (by rfl) (by simp [go_sem, execOp, scase, Act.eval]) hch2 hfull ?_
  go_wp2_with fail
  go_ret
  exact ⟨rfl, HBw.out⟩
theorem feed_Offer_shut (p c cap : Nat) (buf : Array Value) (v : Value) (n : Int) (w : World) (h : FeedAt w p c cap buf 1) :
    Calls Try.prog 8 #[.pointer (some ⟨p, 0, none⟩), .agg #[v, .int .i64 n]] w fun e w' => e = .returned (.bool false) ∧ Below w.heap.size w w' := by
  have hpl : p < w.heap.size := World.block_lt_of_cell? _ _ (obj_cell h.obj (i := 0) rfl)
  obtain ⟨W1, hW1⟩ : ∃ W1, W1 = w.alloc (.cells #[v, .int .i64 n] 30) := ⟨_, rfl⟩
  have hB1 : Below w.heap.size w W1 := by rw [hW1]; exact by (repeat' (first | (with_reducible exact Below.refl _ _) | (with_reducible assumption) | (with_reducible refine below_drewN ?_ _) | (with_reducible refine Below.alloc ?_ ?_ _) | (with_reducible refine Below.drew ?_) | (with_reducible refine Below.setCell ?_ ?_ _) | go_size))
  have hobj1 := obj_below h.obj hB1 hpl
  have hL1 := bool_Load p 1 W1 (obj_cell hobj1 (i := 1) rfl)
  have HW1 := Lib.hid hW1
  clear hW1
  go_enter Try.func8, Try.ntmps8
  go_wp2_with fail
  rw [← HW1.out]
  refine hL1.mono ?_; rintro e w1 ⟨rfl, rfl⟩
  go_wp2_with fail
  go_ret
  exact ⟨rfl, hB1⟩
end Go.Proofs.Ytpbfgoegkpjpmaa
