/- Layer 3: the reader: New, Take, Text, Left, At, Bad. -/
import Derived.Test.YtdpcfcflcfjmjaaReaderNum
namespace Go.Proofs.Ytdpcfcflcfjmjaa
open Go.RowKit
set_option linter.unusedSimpArgs false
set_option linter.unusedVariables false
theorem rd_below {w w' : World} {g q : Nat} {L : List UInt8} {n : Nat} {bad : Bool} (h : RdAt w g q L n bad) (hb : Below w.heap.size w w') : RdAt w' g q L n bad := by
  have hlt : g < w.heap.size := by
    by_cases hg : g < w.heap.size
    · exact hg
    · have := h.1; rw [Array.getElem?_eq_none (by omega)] at this; cases this
  exact ⟨(hb.block g hlt).trans h.1, h.2.1, h.2.2.1, h.2.2.2.1, fun i hi => (hb.cell (p := ⟨q, i, none⟩) (World.block_lt_of_cell? w _ (h.2.2.2.2 i hi))).trans (h.2.2.2.2 i hi)⟩
theorem grown_below {w w1 w2 : World} {o : Option Nat} (h : w.grownBy w1 o) (hb : Below w1.heap.size w1 w2) : w.grownBy w2 o :=
  ⟨hb.os.trans h.os, hb.tape.trans h.tape, hb.output.trans h.output, Nat.le_trans h.size hb.size, fun k hk hne => (hb.block k (Nat.lt_of_lt_of_le hk h.size)).trans (h.block k hk hne)⟩
theorem grown_grown {w w1 w2 : World} {o : Option Nat} (h : w.grownBy w1 o) (hb : w1.grownBy w2 o) : w.grownBy w2 o :=
  ⟨hb.os.trans h.os, hb.tape.trans h.tape, hb.output.trans h.output, Nat.le_trans h.size hb.size, fun k hk hne => (hb.block k (Nat.lt_of_lt_of_le hk h.size) hne).trans (h.block k hk hne)⟩
theorem reader_New (v : Value) (l : List UInt8) (w : World) (hv : RowAt w v l.length (byteV l)) (hm : l.length ≤ 100000000) :
    Calls Try.prog 50 #[v] w fun e w' => ∃ g q, e = .returned (.pointer (some ⟨g, 0, none⟩)) ∧ RdAt w' g q l 0 false ∧ w.heap.size ≤ g ∧ Below w.heap.size w w' := by
  go_enter Try.func50, Try.ntmps50
  go_wp2_with fail
  rw [show (0 : Int) = ((0 : Nat) : Int) from rfl]
  refine (octet_grown v l 0 _ hv (by omega)).mono ?_; rintro e w1 ⟨rfl, hO, hb⟩
  have hz := hb.size
  have hcell : ∀ i, i < l.length → w1.cell? ⟨w.heap.size, i, none⟩ = some (byteV l i) := by
    intro i hi
    have := hO.cellAt i (by omega)
    rw [this]
    exact byteV_at hi
  have hlt : w.heap.size < w1.heap.size := (hO.lt _ rfl).2
  have HC := Lib.hid hcell
  clear hO hcell
  go_wp2_with fail
  go_ret
  refine ⟨w1.heap.size, w.heap.size, rfl, ⟨?_, by omega, by omega, hm, fun i hi => ?_⟩, hz, hb.alloc hz _⟩
  · exact heap_alloc_new w1 _
  · exact (((Below.refl w1.heap.size w1).alloc (Nat.le_refl _) _).cell (p := ⟨w.heap.size, i, none⟩) hlt).trans (HC.out i hi)
theorem reader_Bad (g q : Nat) (L : List UInt8) (n : Nat) (bad : Bool) (w : World) (h : RdAt w g q L n bad) :
    Calls Try.prog 51 #[.pointer (some ⟨g, 0, none⟩)] w fun e w' => e = .returned (.bool bad) ∧ w = w' := by
  have c2 := cell_of h.1 2 rfl
  clear h
  go_enter Try.func51, Try.ntmps51
  go_wp2_with fail
  go_ret
  exact ⟨rfl, rfl⟩
theorem reader_Bad_nil (w : World) : Calls Try.prog 51 #[.pointer none] w fun e w' => e = .returned (.bool true) ∧ w = w' := by
  go_enter Try.func51, Try.ntmps51
  go_wp2_with fail
  go_ret
  exact ⟨rfl, rfl⟩
def leftOf (L : List UInt8) (n : Nat) (bad : Bool) : Int := if bad then 0 else (L.length : Int) - n
theorem reader_Left (g q : Nat) (L : List UInt8) (n : Nat) (bad : Bool) (w : World) (h : RdAt w g q L n bad) :
    Calls Try.prog 52 #[.pointer (some ⟨g, 0, none⟩)] w fun e w' => e = .returned (.int .i64 (leftOf L n bad)) ∧ ∃ m, w' = w.drewN m := by
  have HR := Lib.hid h
  have c0 := cell_of h.1 0 rfl
  have c1 := cell_of h.1 1 rfl
  have hs := IntWalk.i64_in ((L.length : Int) - n) (by have := h.2.2.1; have := h.2.2.2.1; omega)
  clear h
  cases bad
  · go_enter Try.func52, Try.ntmps52
    go_wp2_with fail
    refine (reader_Bad g q L n false _ HR.out).mono ?_; rintro e w' ⟨rfl, rfl⟩
    go_wp2_with fail
    go_quiet (fail)
    go_wp2_with fail
    go_ret
    exact ⟨rfl, _, rfl⟩
  · go_enter Try.func52, Try.ntmps52
    go_wp2_with fail
    refine (reader_Bad g q L n true _ HR.out).mono ?_; rintro e w' ⟨rfl, rfl⟩
    go_wp2_with fail
    go_ret
    exact ⟨rfl, 0, rfl⟩
theorem reader_Left_nil (w : World) : Calls Try.prog 52 #[.pointer none] w fun e w' => e = .returned (.int .i64 0) ∧ w = w' := by
  go_enter Try.func52, Try.ntmps52
  go_wp2_with fail
  refine (reader_Bad_nil _).mono ?_; rintro e w' ⟨rfl, rfl⟩
  go_wp2_with fail
  go_ret
  exact ⟨rfl, rfl⟩
end Go.Proofs.Ytdpcfcflcfjmjaa
