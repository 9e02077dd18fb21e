/- Layer 3: the reader: what lies at its address, and its next bytes. -/
import Derived.Test.YtdpcfcflcfjmjaaLawThree
import Derived.Deep.QuietTactic
import Derived.BigQuiet
import Derived.WalkSmall
import Derived.IntWalk
namespace Go.Proofs.Ytdpcfcflcfjmjaa
open Go.RowKit
set_option linter.unusedSimpArgs false
set_option linter.unusedVariables false
/-- a reader at block g over the bytes L, which lie in block q -/
def RdAt (w : World) (g q : Nat) (L : List UInt8) (n : Nat) (bad : Bool) : Prop :=
  w.heap[g]? = some (.cells #[.slice (some ⟨q, 0, none⟩) L.length L.length, .int .i64 (n : Int), .bool bad] 83 (0, 0)) ∧ q ≠ g ∧ n ≤ L.length ∧ L.length ≤ 100000000 ∧ ∀ i, i < L.length → w.cell? ⟨q, i, none⟩ = some (byteV L i)
theorem cell_of {w : World} {g : Nat} {C : Array Value} {t : TypeId} {fr : Nat × Nat} (h : w.heap[g]? = some (.cells C t fr)) (i : Nat) {v : Value} (hv : C[i]? = some v) : w.cell? ⟨g, i, none⟩ = some v := by
  unfold World.cell?
  rw [show (⟨g, i, none⟩ : Addr).block = g from rfl, h]
  simpa using hv
theorem free_of {w : World} {g : Nat} {C : Array Value} {t : TypeId} (h : w.heap[g]? = some (.cells C t (0, 0))) (i : Nat) : w.frozen? ⟨g, i, none⟩ = false := by
  unfold World.frozen?
  rw [show (⟨g, i, none⟩ : Addr).block = g from rfl, h]
  simp
theorem set_at {w : World} {g : Nat} {C : Array Value} {t : TypeId} {fr : Nat × Nat} (h : w.heap[g]? = some (.cells C t fr)) (i : Nat) (v : Value) (n : Nat) :
    ((w.setCell ⟨g, i, none⟩ v).drewN n).heap[g]? = some (.cells (C.setIfInBounds i v) t fr) ∧ w.grownBy ((w.setCell ⟨g, i, none⟩ v).drewN n) (some g) := by
  constructor
  · show (w.heap.modify g _)[g]? = _
    rw [Array.getElem?_modify, if_pos rfl, h]
    simp
  · refine ⟨rfl, rfl, rfl, ?_, ?_⟩
    · simp [World.setCell]
    · intro k hk hne
      show (w.heap.modify g _)[k]? = _
      rw [Array.getElem?_modify, if_neg (by intro e; exact hne (by rw [e]))]
theorem drewN_set (W : World) (q : Nat) (x : Addr) (v : Value) : (W.drewN q).setCell x v = (W.setCell x v).drewN q := by
  simp only [World.setCell, World.heap_drewN]
  rfl
theorem rd_grown_cell {w w' : World} {g q i : Nat} {v : Value} (h : w.grownBy w' (some g)) (hq : q ≠ g) (hc : w.cell? ⟨q, i, none⟩ = some v) : w'.cell? ⟨q, i, none⟩ = some v := by
  have hlt := World.block_lt_of_cell? w _ hc
  have := h.block q hlt (by intro e; exact hq (Option.some.inj e))
  unfold World.cell? at hc ⊢
  rw [show (⟨q, i, none⟩ : Addr).block = q from rfl] at hc ⊢
  rw [this]
  exact hc
theorem rd_keep {w w' : World} {g q : Nat} {L : List UInt8} {n n' : Nat} {bad bad' : Bool} (h : RdAt w g q L n bad) (hn : n' ≤ L.length)
    (hg : w'.heap[g]? = some (.cells #[.slice (some ⟨q, 0, none⟩) L.length L.length, .int .i64 (n' : Int), .bool bad'] 83 (0, 0))) (hw : w.grownBy w' (some g)) : RdAt w' g q L n' bad' :=
  ⟨hg, h.2.1, hn, h.2.2.2.1, fun i hi => rd_grown_cell hw h.2.1 (h.2.2.2.2 i hi)⟩
theorem rd_drew {w : World} {g q : Nat} {L : List UInt8} {n : Nat} {bad : Bool} (h : RdAt w g q L n bad) (m : Nat) : RdAt (w.drewN m) g q L n bad := h
theorem take_cells {w : World} {q n m : Nat} {L : List UInt8} {cap : Nat} (hm : n + m ≤ L.length) (hc : n + m ≤ n + cap) (hcap : cap ≤ 100000000) (hb : ∀ i, i < L.length → w.cell? ⟨q, i, none⟩ = some (byteV L i)) :
    RowAt w (.slice (some ⟨q, n, none⟩) m cap) m (byteV ((L.drop n).take m)) := by
  by_cases h0 : m = 0
  · subst h0; exact Or.inl ⟨_, _, rfl, rfl, fun h => by cases h⟩
  · refine Or.inr ⟨q, n, cap, rfl, by omega, by omega, by unfold maxLen; omega, World.block_lt_of_cell? w _ (hb n (by omega)), fun i hi => ?_⟩
    rw [hb (n + i) (by omega)]
    simp [byteV, List.getD, hi]
theorem next_fail (g q : Nat) (L : List UInt8) (n : Nat) (z : Int) (w : World) (h : RdAt w g q L n false) (hz : z < 0 ∨ (L.length : Int) - n < z) :
    Calls Try.prog 53 #[.pointer (some ⟨g, 0, none⟩), .int .i64 z] w fun e w' => e = .returned (.slice none 0 0) ∧ RdAt w' g q L n true ∧ w.grownBy w' (some g) := by
  have HR := Lib.hid h
  obtain ⟨hg, hq, hn, hL, hb⟩ := h
  have c0 := cell_of hg 0 rfl
  have c1 := cell_of hg 1 rfl
  have c2 := cell_of hg 2 rfl
  have f2 := free_of hg 2
  have hs := IntWalk.i64_in ((L.length : Int) - n) (by omega)
  have HB := Lib.hid hb
  have HG := Lib.hid hg
  clear hb hg
  have hz0 : z < 0 ∧ decide (z < 0) = true ∨ decide (z < 0) = false ∧ decide ((L.length : Int) - n < z) = true := by
    by_cases h : z < 0
    · exact Or.inl ⟨h, by simpa using h⟩
    · exact Or.inr ⟨by simpa using h, by simp; omega⟩
  rcases hz0 with ⟨_, e1⟩ | ⟨e1, e2⟩
  all_goals
    go_enter Try.func53, Try.ntmps53
    go_wp2_with fail
    go_quiet (fail)
    clear hs
    go_wp2_with fail
    go_ret
    obtain ⟨k1, k2⟩ := set_at HG.out 2 (.bool true) nq
    rw [drewN_set]
    exact ⟨rfl, rd_keep HR.out hn k1 k2, k2⟩
theorem next_bad (g q : Nat) (L : List UInt8) (n : Nat) (z : Int) (w : World) (h : RdAt w g q L n true) :
    Calls Try.prog 53 #[.pointer (some ⟨g, 0, none⟩), .int .i64 z] w fun e w' => e = .returned (.slice none 0 0) ∧ w = w' := by
  obtain ⟨hg, hq, hn, hL, hb⟩ := h
  have c2 := cell_of hg 2 rfl
  clear hb hg
  go_enter Try.func53, Try.ntmps53
  go_wp2_with fail
  go_ret
  exact ⟨rfl, rfl⟩
theorem next_nil (z : Int) (w : World) : Calls Try.prog 53 #[.pointer none, .int .i64 z] w fun e w' => e = .returned (.slice none 0 0) ∧ w = w' := by
  go_enter Try.func53, Try.ntmps53
  go_wp2_with fail
  go_ret
  exact ⟨rfl, rfl⟩
theorem next_ok (g q : Nat) (L : List UInt8) (n m : Nat) (z : Int) (w : World) (h : RdAt w g q L n false) (hz : z = (m : Int)) (hm : n + m ≤ L.length) :
    Calls Try.prog 53 #[.pointer (some ⟨g, 0, none⟩), .int .i64 z] w fun e w' => ∃ r, e = .returned r ∧ RowAt w' r m (byteV ((L.drop n).take m)) ∧ RdAt w' g q L (n + m) false ∧ w.grownBy w' (some g) := by
  have HR := Lib.hid h
  obtain ⟨hg, hq, hn, hL, hb⟩ := h
  subst hz
  have c0 := cell_of hg 0 rfl
  have c1 := cell_of hg 1 rfl
  have c2 := cell_of hg 2 rfl
  have f1 := free_of hg 1
  have hs := IntWalk.i64_in ((L.length : Int) - n) (by omega)
  have HG := Lib.hid hg
  clear hb hg
  have e1 : decide ((m : Int) < 0) = false := by simp
  have e2 : decide ((L.length : Int) - n < m) = false := by simp; omega
  go_enter Try.func53, Try.ntmps53
  go_wp2_with fail
  go_quiet (fail)
  clear hs
  go_wp2_with fail
  obtain ⟨W, hW⟩ : ∃ W, W = (w.drewN nq).setCell ⟨g, 1, none⟩ (.int .i64 ((n : Int) + m)) := ⟨_, rfl⟩
  rw [← hW]
  obtain ⟨k1, k2⟩ := set_at HG.out 1 (.int .i64 ((n : Int) + m)) nq
  rw [← drewN_set, ← hW] at k1 k2
  have k3 : W.heap[g]? = some (.cells #[.slice (some ⟨q, 0, none⟩) L.length L.length, .int .i64 ((n : Int) + m), .bool false] 83 (0, 0)) := k1
  have d0 := cell_of k3 0 rfl
  have d1 := cell_of k3 1 rfl
  have HW := Lib.hid hW
  have K1 := Lib.hid k3
  clear hW c0 c1 c2 f1 e1 e2 k1 k3
  have s1 := IntWalk.i64_in (n : Int) (by omega)
  have s2 := IntWalk.i64_in ((n : Int) + m - m) (by omega)
  have s3 : (n : Int) + m - m = n := by omega
  have s4 : 0 ≤ (n : Int) + m := by omega
  have s5 : ((n : Int) + m).toNat = n + m := by omega
  have hcap : L.length = n ∨ n < L.length := by omega
  rcases hcap with hcap | hcap
  · have hm0 : m = 0 := by omega
    have Hm0 := Lib.hid hm0
    clear hm0
    go_quiet (fail)
    go_wp2_with fail
    go_ret
    have hR2 : RdAt W g q L (n + m) false := rd_keep HR.out hm (by have := K1.out; rw [← Int.natCast_add] at this; exact this) k2
    have hG2 : w.grownBy (W.drewN nq) (some g) := ⟨k2.os, k2.tape, k2.output, k2.size, k2.block⟩
    have hm0 := Hm0.out
    subst hm0
    exact ⟨_, rfl, Or.inl ⟨_, _, rfl, rfl, fun h => by cases h⟩, rd_drew hR2 _, hG2⟩
  · go_quiet (fail)
    go_wp2_with fail
    go_ret
    have hR2 : RdAt W g q L (n + m) false := rd_keep HR.out hm (by have := K1.out; rw [← Int.natCast_add] at this; exact this) k2
    have hG2 : w.grownBy (W.drewN nq) (some g) := ⟨k2.os, k2.tape, k2.output, k2.size, k2.block⟩
    exact ⟨_, rfl, take_cells (w := W.drewN nq) hm (by omega) (by omega) hR2.2.2.2.2, rd_drew hR2 _, hG2⟩
end Go.Proofs.Ytdpcfcflcfjmjaa
