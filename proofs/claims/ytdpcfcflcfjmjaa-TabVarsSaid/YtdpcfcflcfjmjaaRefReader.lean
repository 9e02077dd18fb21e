/- Layer 3: the reference's reader: what lies at its address, and its methods. -/
import Derived.Test.YtdpcfcflcfjmjaaReaderAll
namespace Go.Proofs.Ytdpcfcflcfjmjaa
open Go.RowKit
set_option linter.unusedSimpArgs false
set_option linter.unusedVariables false
/-- a slice that isn't empty lies in block q -/
def inBlk (v : Value) (q : Nat) : Prop := ∀ a n c, v = .slice (some a) n c → 0 < n → a.block = q
theorem row_stay {w w' : World} {v : Value} {n : Nat} {f : Nat → Value} {q : Nat} (h : RowAt w v n f) (hq : inBlk v q) (hs : w.heap.size ≤ w'.heap.size) (hb : q < w.heap.size → w'.heap[q]? = w.heap[q]?) : RowAt w' v n f := by
  rcases h with h | ⟨b, off, cap, h1, h2, h3, h4, h5, h6⟩
  · exact Or.inl h
  · have e : b = q := hq _ _ _ h1 h2
    subst e
    refine Or.inr ⟨b, off, cap, h1, h2, h3, h4, by omega, fun i hi => ?_⟩
    rw [← h6 i hi]
    exact World.cell?_of_block (hb h5)
/-- the reference's reader at block g over the bytes L, which lie in block q -/
def RfAt (w : World) (g q : Nat) (L : List UInt8) (n : Nat) (bad : Bool) : Prop :=
  ∃ rv, w.heap[g]? = some (.cells #[rv, .int .i64 (n : Int), .bool bad] 81 (0, 0)) ∧ RowAt w rv (L.length - n) (byteV (L.drop n)) ∧ inBlk rv q ∧ q ≠ g ∧ n ≤ L.length ∧ L.length ≤ 100000000
theorem rf_here {w : World} {g q : Nat} {L : List UInt8} {n : Nat} {bad : Bool} (h : RfAt w g q L n bad) : n ≤ L.length ∧ L.length ≤ 100000000 ∧ g < w.heap.size := by
  obtain ⟨rv, h1, h2, h3, h4, h5, h6⟩ := h
  refine ⟨h5, h6, ?_⟩
  by_cases hg : g < w.heap.size
  · exact hg
  · rw [Array.getElem?_eq_none (by omega)] at h1; cases h1
theorem rf_stay {w w' : World} {g q : Nat} {L : List UInt8} {n : Nat} {bad : Bool} (h : RfAt w g q L n bad) (hs : w.heap.size ≤ w'.heap.size) (hg : w'.heap[g]? = w.heap[g]?) (hq : q < w.heap.size → w'.heap[q]? = w.heap[q]?) : RfAt w' g q L n bad := by
  obtain ⟨rv, h1, h2, h3, h4, h5, h6⟩ := h
  exact ⟨rv, hg.trans h1, row_stay h2 h3 hs hq, h3, h4, h5, h6⟩
theorem rf_below {w w' : World} {g q : Nat} {L : List UInt8} {n : Nat} {bad : Bool} (h : RfAt w g q L n bad) (hb : Below w.heap.size w w') : RfAt w' g q L n bad :=
  rf_stay h hb.size (hb.block g (rf_here h).2.2) (fun hq => hb.block q hq)
theorem rf_grown {w w' : World} {g q : Nat} {L : List UInt8} {n : Nat} {bad : Bool} {o : Option Nat} (h : RfAt w g q L n bad) (hb : w.grownBy w' o) (hg : some g ≠ o) (hq : some q ≠ o) : RfAt w' g q L n bad :=
  rf_stay h hb.size (hb.block g (rf_here h).2.2 hg) (fun h => hb.block q h hq)
theorem rf_drew {w : World} {g q : Nat} {L : List UInt8} {n : Nat} {bad : Bool} (h : RfAt w g q L n bad) (m : Nat) : RfAt (w.drewN m) g q L n bad := h
theorem row_drop {w : World} {q n m : Nat} {L : List UInt8} {a : Value} (h : RowAt w a (L.length - n) (byteV (L.drop n))) (hq : inBlk a q) : ∃ p cap, a = .slice p (L.length - n) cap := by
  rcases h with ⟨p, cap, rfl, h0, _⟩ | ⟨b, off, cap, rfl, _⟩
  · exact ⟨p, cap, by rw [h0]⟩
  · exact ⟨_, cap, rfl⟩
theorem ref_Take_bad (g q : Nat) (L : List UInt8) (n : Nat) (z : Int) (w : World) (h : RfAt w g q L n true) :
    Calls Try.prog 54 #[.pointer (some ⟨g, 0, none⟩), .int .i64 z] w fun e w' => e = .returned (.slice none 0 0) ∧ RfAt w' g q L n true ∧ w.grownBy w' (some g) := by
  have HR := Lib.hid h
  obtain ⟨rv, hg, hr, hi, hq, hn, hL⟩ := h
  have c2 := cell_of hg 2 rfl
  have f2 := free_of hg 2
  have HG := Lib.hid hg
  have Hr := Lib.hid hr
  clear hg hr
  go_enter Try.func54, Try.ntmps54
  go_wp2_with fail
  go_ret
  obtain ⟨k1, k2⟩ := set_at HG.out 2 (.bool true) 0
  exact ⟨rfl, ⟨rv, k1, row_stay Hr.out hi k2.size (fun h => k2.block q h (by simpa using hq)), hi, hq, hn, hL⟩, k2⟩
theorem ref_Take_fail (g q : Nat) (L : List UInt8) (n : Nat) (z : Int) (w : World) (h : RfAt w g q L n false) (hz : z < 0 ∨ (L.length : Int) - n < z) :
    Calls Try.prog 54 #[.pointer (some ⟨g, 0, none⟩), .int .i64 z] w fun e w' => e = .returned (.slice none 0 0) ∧ RfAt w' g q L n true ∧ w.grownBy w' (some g) := by
  have HR := Lib.hid h
  obtain ⟨rv, hg, hr, hi, hq, hn, hL⟩ := h
  obtain ⟨p, cap, rfl⟩ := row_drop hr hi (m := 0)
  have c0 := cell_of hg 0 rfl
  have c2 := cell_of hg 2 rfl
  have f2 := free_of hg 2
  have HG := Lib.hid hg
  have Hr := Lib.hid hr
  clear hg hr
  have hz0 : z < 0 ∧ decide (z < 0) = true ∨ decide (z < 0) = false ∧ decide (((L.length - n : Nat) : Int) < z) = true := by
    by_cases h : z < 0
    · exact Or.inl ⟨h, by simpa using h⟩
    · exact Or.inr ⟨by simpa using h, by simp; omega⟩
  have hl : (((L.length - n : Nat)) : Int) ≤ 9223372036854775807 := by omega
  generalize hln : L.length - n = ln at *
  rcases hz0 with ⟨_, e1⟩ | ⟨e1, e2⟩
  all_goals
    go_enter Try.func54, Try.ntmps54
    go_wp2_with fail
    go_ret
    obtain ⟨k1, k2⟩ := set_at HG.out 2 (.bool true) 0
    exact ⟨rfl, ⟨_, k1, row_stay (by rw [hln]; exact Hr.out) hi k2.size (fun h => k2.block q h (by simpa using hq)), hi, hq, hn, hL⟩, k2⟩
end Go.Proofs.Ytdpcfcflcfjmjaa
