/- Layer 51: what is told. -/
import Derived.Test.YtpbfgoegkpjpmaaFeedC
namespace Go.Proofs.Ytpbfgoegkpjpmaa
open Go.RowKit Go.Conc
set_option linter.unusedSimpArgs false
set_option linter.unusedVariables false
theorem row_chan {w : World} {c cap s r : Nat} {buf : Array Value} {cl tm : Bool} (hc : w.heap[c]? = some (.chan cap buf cl s r tm)) {v : Value} {L : List Int} (h : RowR 1 intR w v L) {cap' s' r' : Nat} {buf' : Array Value} {cl' tm' : Bool} : RowR 1 intR (w.setChan c cap' buf' cl' s' r' tm') v L := by
  rcases h with ⟨a, cap, h1, h2, h3⟩ | ⟨b, off, cap, h1, h2, h3, h4, h5, h6⟩
  · exact Or.inl ⟨a, cap, h1, h2, h3⟩
  · refine Or.inr ⟨b, off, cap, h1, h2, h3, h4, by rw [size_setChan]; exact h5, fun i z hz => ?_⟩
    obtain ⟨C, g1, g2, g3, g4⟩ := h6 i z hz
    refine ⟨C, g1, fun j u hu => ?_, g3, g4⟩
    have hj := g2 j u hu
    have hbc : b ≠ c := by
      rintro rfl
      unfold World.cell? at hj
      dsimp only at hj
      rw [hc] at hj
      cases hj
    rw [← hj]
    unfold World.cell?
    dsimp only
    rw [get_setChan hbc]
set_option maxHeartbeats 4000000 in
theorem feed_Next_some (p c cap : Nat) (buf : Array Value) (x : Int) (v : Value) (L : List Int) (n : Int) (w : World) (h : FeedAt w p c cap buf x) (hsome : 0 < buf.size) (hfst : buf.getD 0 undef = .agg #[v, .int .i64 n]) (hv : RowR 1 intR w v L) (hL : L.length ≤ 100) :
    Calls Try.prog 10 #[.pointer (some ⟨p, 0, none⟩)] w fun e w' => ∃ r : Value, e = .returned (.tuple #[.agg #[r, .int .i64 n], .bool true]) ∧ w'.ownsRow w.heap.size 3 1 r L.length (iV L) ∧ FeedAt w' p c cap (buf.extract 1 buf.size) x ∧ w.grownBy w' (some c) := by
  have hpl : p < w.heap.size := World.block_lt_of_cell? _ _ (obj_cell h.obj (i := 0) rfl)
  obtain ⟨s, r, hch⟩ := h.chan
  have hpc : p ≠ c := by
    intro e
    rw [← e, h.obj] at hch
    cases hch
  have hcl : c < w.heap.size := by
    by_cases hcl : c < w.heap.size
    · exact hcl
    · rw [Array.getElem?_eq_none (Nat.le_of_not_lt hcl)] at hch; cases hch
  obtain ⟨W1, hW1⟩ : ∃ W1, W1 = w.alloc (.cells #[.slice none 0 0, .int .i64 0] 30) := ⟨_, rfl⟩
  have hB1 : Below w.heap.size w W1 := by rw [hW1]; exact by (repeat' (first | (with_reducible exact Below.refl _ _) | (with_reducible assumption) | (with_reducible refine below_drewN ?_ _) | (with_reducible refine Below.alloc ?_ ?_ _) | (with_reducible refine Below.drew ?_) | (with_reducible refine Below.setCell ?_ ?_ _) | go_size))
  have hsz1 : W1.heap.size = w.heap.size + 1 := by rw [hW1]; simp
  have hj1 : W1.heap[w.heap.size]? = some (.cells #[.slice none 0 0, .int .i64 0] 30) := by rw [hW1]; exact get_last rfl
  have hobj1 := obj_below h.obj hB1 hpl
  have hch1 : W1.heap[c]? = some (.chan cap buf false s r false) := obj_below hch hB1 hcl
  have a0 := obj_cell hobj1 (i := 0) rfl
  have HW1 := Lib.hid hW1
  clear hW1
  obtain ⟨W2, hW2⟩ : ∃ W2, W2 = W1.setChan c cap (buf.extract 1 buf.size) false s (r + 1) false := ⟨_, rfl⟩
  have hG2 : w.grownBy W2 (some c) := by rw [hW2]; exact grown_setChan hB1
  have hK2 : W2.heap[c]? = some (.chan cap (buf.extract 1 buf.size) false s (r + 1) false) := by rw [hW2]; exact heap_setChan _ _ _ _ _ _ _ _ (by omega)
  have hj2 : W2.heap[w.heap.size]? = some (.cells #[.slice none 0 0, .int .i64 0] 30) := by rw [hW2, get_setChan (by omega)]; exact hj1
  have hobj2 : W2.heap[p]? = some (.cells #[.chan (some c), .int .u32 x] 50) := by rw [hW2, get_setChan hpc]; exact hobj1
  have hsz2 : W2.heap.size = w.heap.size + 1 := by rw [hW2, size_setChan]; exact hsz1
  have hv2 : RowR 1 intR W2 v L := by rw [hW2]; exact row_chan hch1 (hv.below intR_stable hB1)
  obtain ⟨sv, cv, rfl⟩ := row_get hv
  obtain ⟨W3, hW3⟩ : ∃ W3, W3 = W2.alloc (.cells #[.slice sv L.length cv, .int .i64 n] 30) := ⟨_, rfl⟩
  have hB3 : Below W2.heap.size W2 W3 := by rw [hW3]; exact by (repeat' (first | (with_reducible exact Below.refl _ _) | (with_reducible assumption) | (with_reducible refine below_drewN ?_ _) | (with_reducible refine Below.alloc ?_ ?_ _) | (with_reducible refine Below.drew ?_) | (with_reducible refine Below.setCell ?_ ?_ _) | go_size))
  have hsz3 : W3.heap.size = w.heap.size + 2 := by rw [hW3]; simp [hsz2]
  have hj3 : W3.heap[w.heap.size + 1]? = some (.cells #[.slice sv L.length cv, .int .i64 n] 30) := by rw [hW3]; exact get_last hsz2.symm
  have b0 := obj_cell hj3 (i := 0) rfl
  have b1 := obj_cell hj3 (i := 1) rfl
  have hown := feed_own (.slice sv L.length cv) L n W3 (hv2.below intR_stable hB3) hL
  have HW2 := Lib.hid hW2
  have HW3 := Lib.hid hW3
  have HF := Lib.hid hfst
  clear hW2 hW3 hfst
  go_enter Try.func10, Try.ntmps10
  go_upto_region 1 with fail
  rw [← HW1.out]
  go_upto_region 4 with fail
  refine wp_select_recv (c := c) (z := .agg #[.slice none 0 0, .int .i64 0]) (by rfl) (by simp [go_sem, execOp, rcase, Act.eval]) hch1 hsome ?_
  rw [HF.out, ← HW2.out]
  go_upto_region 7 with fail
  rw [← HW3.out]
  go_wp2_with fail
  refine hown.mono ?_; rintro e w4 ⟨rv, rfl, hO4, hB4⟩
  obtain ⟨av, cw, rfl⟩ := owns_form hO4
  have hB24 := Lib.hid (hB3.trans (hB4.mono hB3.size))
  have hj4 := obj_below hj2 hB24.out (by omega)
  have z0 := obj_frozen hj4 0
  have d0 := obj_cell hj4 (i := 0) rfl
  have d1 := obj_cell hj4 (i := 1) rfl
  have k1 := obj_self (i := 0) (x := .slice av L.length cw) hj4
  have z1 := obj_frozen k1 1
  have k2 := obj_self (i := 1) (x := .int .i64 n) k1
  have e0 := obj_cell k2 (i := 0) rfl
  have e1 := obj_cell k2 (i := 1) rfl
  clear k1 k2
  have hO5 := owns_congr (w' := (w4.setCell ⟨w.heap.size, 0, none⟩ (.slice av L.length cw)).setCell ⟨w.heap.size, 1, none⟩ (.int .i64 n)) (own_low hO4 (show w.heap.size + 1 ≤ _ by omega)) (fun g hg => by rw [get_set (by simp; omega), get_set (by simp; omega)])
  have hne : ∀ g, g < w.heap.size → ((w4.setCell ⟨w.heap.size, 0, none⟩ (.slice av L.length cw)).setCell ⟨w.heap.size, 1, none⟩ (.int .i64 n)).heap[g]? = w4.heap[g]? := fun g hg => by rw [get_set (by simp; omega), get_set (by simp; omega)]
  have hF5 : FeedAt ((w4.setCell ⟨w.heap.size, 0, none⟩ (.slice av L.length cw)).setCell ⟨w.heap.size, 1, none⟩ (.int .i64 n)) p c cap (buf.extract 1 buf.size) x := ⟨(hne p hpl).trans (obj_below hobj2 hB24.out (by omega)), _, _, (hne c hcl).trans (obj_below hK2 hB24.out (by omega))⟩
  have hG5 : w.grownBy ((w4.setCell ⟨w.heap.size, 0, none⟩ (.slice av L.length cw)).setCell ⟨w.heap.size, 1, none⟩ (.int .i64 n)) (some c) := ⟨hB24.out.os.trans hG2.os, hB24.out.tape.trans hG2.tape, hB24.out.output.trans hG2.output, by rw [set_size, set_size]; exact Nat.le_trans hG2.size hB24.out.size, fun k hk hkc => (hne k hk).trans ((hB24.out.block k (by omega)).trans (hG2.block k hk hkc))⟩
  have HE := Lib.hid (And.intro hO5 (And.intro hF5 hG5))
  clear hO5 hne hF5 hG5
  go_wp2_with fail
  refine bodyPost_ret (by simp [results, Try.results10, go_sem, e0, e1]; try rfl) rfl ?_
  exact ⟨_, rfl, own_low HE.out.1 (Nat.le_succ _), HE.out.2.1, HE.out.2.2⟩
end Go.Proofs.Ytpbfgoegkpjpmaa
