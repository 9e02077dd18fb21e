/- Layer 3: what the reads' regions need. -/
import Derived.Test.YteffcopdhimbaaaRefLeft
import Derived.Test.YteffcopdhimbaaaFacts
import Derived.Test.YteffcopdhimbaaaKeep
namespace Go.Proofs.Yteffcopdhimbaaa
open Go.RowKit
set_option linter.unusedSimpArgs false
set_option linter.unusedVariables false
theorem rd_stay {w w' : World} {g q : Nat} {L : List UInt8} {n : Nat} {bad : Bool} (h : RdAt w g q L n bad) (hg : w'.heap[g]? = w.heap[g]?) (hq : q < w.heap.size → w'.heap[q]? = w.heap[q]?) : RdAt w' g q L n bad :=
  ⟨hg.trans h.1, h.2.1, h.2.2.1, h.2.2.2.1, fun i hi => by
    have hc := h.2.2.2.2 i hi
    exact (World.cell?_of_block (a := ⟨q, i, none⟩) (hq (World.block_lt_of_cell? w _ hc))).trans hc⟩
theorem rd_lt {w : World} {g q : Nat} {L : List UInt8} {n : Nat} {bad : Bool} (h : RdAt w g q L n bad) : g < w.heap.size := by
  by_cases hg : g < w.heap.size
  · exact hg
  · have := h.1; rw [Array.getElem?_eq_none (by omega)] at this; cases this
theorem rd_grown {w w' : World} {g q : Nat} {L : List UInt8} {n : Nat} {bad : Bool} {o : Option Nat} (h : RdAt w g q L n bad) (hb : w.grownBy w' o) (hg : some g ≠ o) (hq : some q ≠ o) : RdAt w' g q L n bad :=
  rd_stay h (hb.block g (rd_lt h) hg) (fun h => hb.block q h hq)
theorem grownBelow {w w1 w2 : World} {B g : Nat} (hb : Below B w w1) (hg : w1.grownBy w2 (some g)) (hB : B ≤ g) (hs : B ≤ w1.heap.size) : Below B w w2 :=
  hb.trans ⟨hg.os, hg.tape, hg.output, hg.size, fun k hk => hg.block k (by omega) (by simp; omega)⟩
/-- bytes don't lie where a reader lies -/
theorem row_grown {w w' : World} {r : Value} {B : List UInt8} {g : Nat} {a c : Value} {z : Int} {t : TypeId} {fr : Nat × Nat} (h : RowAt w r B.length (byteV B)) (hg : w.heap[g]? = some (.cells #[a, .int .i64 z, c] t fr)) (ha : ∀ x : Nat, a ≠ .int .u8 x) (hc : ∀ x : Nat, c ≠ .int .u8 x) (hb : w.grownBy w' (some g)) : RowAt w' r B.length (byteV B) := by
  rcases h with h | ⟨bb, off, cap, h1, h2, h3, h4, h5, h6⟩
  · exact Or.inl h
  · have hne : bb ≠ g := by
      intro e
      have h7 := h6 0 h2
      unfold World.cell? at h7
      rw [show (⟨bb, off + 0, none⟩ : Addr).block = bb from rfl, e, hg] at h7
      have h8 : byteV B 0 = .int .u8 ((B.getD 0 0).toNat : Nat) := rfl
      rw [h8] at h7
      have h9 : (#[a, Value.int .i64 z, c] : Array Value)[off + 0]? = some (.int .u8 ((B.getD 0 0).toNat : Nat)) := by simpa using h7
      match off, h9 with
      | 0, h9 => simp at h9; exact ha _ h9
      | 1, h9 => simp at h9
      | 2, h9 => simp at h9; exact hc _ h9
      | k + 3, h9 => simp at h9
    refine Or.inr ⟨bb, off, cap, h1, h2, h3, h4, Nat.lt_of_lt_of_le h5 hb.size, fun i hi => ?_⟩
    rw [← h6 i hi]
    exact World.cell?_of_block (hb.block bb h5 (by simpa using hne))
theorem row_rd {w w' : World} {r : Value} {B : List UInt8} {g q : Nat} {L : List UInt8} {n : Nat} {bad : Bool} (h : RowAt w r B.length (byteV B)) (hg : RdAt w g q L n bad) (hb : w.grownBy w' (some g)) : RowAt w' r B.length (byteV B) :=
  row_grown h hg.1 (by intro x h; cases h) (by intro x h; cases h) hb
theorem row_rf {w w' : World} {r : Value} {B : List UInt8} {g q : Nat} {L : List UInt8} {n : Nat} {bad : Bool} (h : RowAt w r B.length (byteV B)) (hg : RfAt w g q L n bad) (hb : w.grownBy w' (some g)) : RowAt w' r B.length (byteV B) := by
  obtain ⟨rv, h1, h2, h3, h4, h5, h6⟩ := hg
  refine row_grown h h1 (fun x hx => ?_) (by intro x h; cases h) hb
  subst hx
  rcases h2 with ⟨a, c, h, _⟩ | ⟨b, o, c, h, _⟩ <;> cases h
theorem cellBd {B : Nat} {a b : World} (k : Below B a b) {g o : Nat} {v : Value} (hc : a.cell? ⟨g, o, none⟩ = some v) (hp : g < B) : b.cell? ⟨g, o, none⟩ = some v := (k.cell (p := ⟨g, o, none⟩) hp).trans hc
end Go.Proofs.Yteffcopdhimbaaa
