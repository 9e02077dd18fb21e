/- Layer 23: whether a place is one, and what stands there. -/
import Derived.Test.YtpnnmhcemecjfaaStRep
namespace Go.Proofs.Ytpnnmhcemecjfaa
open Go.RowKit
set_option linter.unusedSimpArgs false
set_option linter.unusedVariables false
/-- the four cells of a state in memory -/
def C4 (W : World) (g : Nat) (x y z u : Value) : Prop := W.cell? ⟨g, 0, none⟩ = some x ∧ W.cell? ⟨g, 1, none⟩ = some y ∧ W.cell? ⟨g, 2, none⟩ = some z ∧ W.cell? ⟨g, 3, none⟩ = some u
theorem C4.new (W : World) (x y z u : Value) (t : TypeId) {W' : World} (h : Below (W.heap.size + 1) (W.alloc (.cells #[x, y, z, u] t)) W') : C4 W' W.heap.size x y z u :=
  ⟨(h.cell (by simp)).trans (by rw [cell_at (by simp)]; rfl), (h.cell (by simp)).trans (by rw [cell_at (by simp)]; rfl), (h.cell (by simp)).trans (by rw [cell_at (by simp)]; rfl), (h.cell (by simp)).trans (by rw [cell_at (by simp)]; rfl)⟩
theorem C4.keep {W W' : World} {g : Nat} {x y z u : Value} (c : C4 W g x y z u) (hb : g < W.heap.size) (h : Below W.heap.size W W') : C4 W' g x y z u :=
  ⟨(h.cell (p := ⟨g, 0, none⟩) hb).trans c.1, (h.cell (p := ⟨g, 1, none⟩) hb).trans c.2.1, (h.cell (p := ⟨g, 2, none⟩) hb).trans c.2.2.1, (h.cell (p := ⟨g, 3, none⟩) hb).trans c.2.2.2⟩
def rowS (s : St) (i : Int) : List Int := s.vars.getD i.toNat []
def hasS (s : St) (i k : Int) : Bool := decide (0 ≤ i ∧ i < s.vars.length ∧ 0 ≤ k ∧ k < (rowS s i).length)
def valS (s : St) (i k : Int) : Int := (rowS s i).getD k.toNat 0
def readS (s : St) (i k : Int) : Int := if hasS s i k then valS s i k else 0
theorem readS_yes {s : St} {i k : Int} (h : hasS s i k = true) : readS s i k = valS s i k := if_pos h
theorem readS_no {s : St} {i k : Int} (h : hasS s i k = false) : readS s i k = 0 := by unfold readS; rw [h]; exact if_neg (by decide)
theorem hasS_at {s : St} {i k : Int} (h : hasS s i k = true) : ∃ n m : Nat, i = n ∧ k = m ∧ ∃ l z, s.vars[n]? = some l ∧ l[m]? = some z ∧ valS s i k = z := by
  obtain ⟨h1, h2, h3, h4⟩ : 0 ≤ i ∧ i < s.vars.length ∧ 0 ≤ k ∧ k < (rowS s i).length := of_decide_eq_true h
  obtain ⟨n, rfl⟩ := Int.eq_ofNat_of_zero_le h1
  obtain ⟨m, rfl⟩ := Int.eq_ofNat_of_zero_le h3
  have hx : s.vars[n]? = some (s.vars[n]'(by omega)) := by simp [show n < s.vars.length by omega]
  have hl : rowS s n = s.vars[n]'(by omega) := by unfold rowS; simp [List.getD, hx]
  rw [hl] at h4
  refine ⟨n, m, rfl, rfl, _, (s.vars[n]'(by omega))[m]'(by omega), hx, by simp [show m < (s.vars[n]'(by omega)).length by omega], ?_⟩
  unfold valS
  rw [hl]
  simp [List.getD, show m < (s.vars[n]'(by omega)).length by omega]
end Go.Proofs.Ytpnnmhcemecjfaa
