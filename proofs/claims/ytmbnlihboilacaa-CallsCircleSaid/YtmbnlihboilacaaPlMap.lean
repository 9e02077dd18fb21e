/- A map from numbers to numbers, as the numbers that it has. -/
import Derived.Test.YtmbnlihboilacaaOwn
import Derived.Maps.OwnOps
import Derived.Maps.OwnSet
import Derived.Maps.Views
import Derived.Carry
namespace Go.Proofs.Ytmbnlihboilacaa
open Go.RowKit Go.Maps
set_option linter.unusedSimpArgs false
set_option linter.unusedVariables false
def PlMap (P : Program) (K E : TypeId) (w : World) (b n : Nat) (L : List Nat) : Prop :=
  ∃ D : DataW Unit, w.ownsMap P K (plainElem P E) b n D ∧ IsMap D ∧ ∀ x : Int, Maps.has D (.int .i64 x) = decide (∃ u ∈ L, x = ((u : Nat) : Int))
theorem PlMap.made (P : Program) (K E : TypeId) (w : World) : PlMap P K E (w.alloc (.map #[] 0)) w.heap.size 0 [] :=
  ⟨.map [], World.ownsMap_made _ _ _ _, isMap_empty, fun x => by simp [Maps.has]⟩
theorem PlMap.kept {P : Program} {K E : TypeId} {w w' : World} {b n : Nat} {L : List Nat} {row : Option Nat} (h : PlMap P K E w b n L) (hg : w.grownBy w' row) (hne : some b ≠ row) : PlMap P K E w' b n L := by
  obtain ⟨D, h1, h2, h3⟩ := h
  exact ⟨D, h1.kept hg hne, h2, h3⟩
theorem grown_none {w w' : World} (h : Below w.heap.size w w') : w.grownBy w' none := ⟨h.os, h.tape, h.output, h.size, fun k hk _ => h.block k hk⟩
theorem PlMap.below {P : Program} {K E : TypeId} {w w' : World} {b n : Nat} {L : List Nat} (h : PlMap P K E w b n L) (hg : Below w.heap.size w w') : PlMap P K E w' b n L := h.kept (grown_none hg) (by simp)
theorem key_int {P : Program} {K : TypeId} (hk : P.underlying K = some (.int .i64)) {x : Int} (hx : I64 x) : keyOf P K (.int .i64 x) = some (.int .i64 x) := by
  unfold I64 at hx
  exact keyOf_int_mk hk (by have h1 : IntKind.i64.min = -9223372036854775808 := by decide
                            have h2 : IntKind.i64.max = 9223372036854775807 := by decide
                            simp only [Lit.wf, h1, h2, Bool.and_eq_true, decide_eq_true_eq]; omega)
theorem PlMap.look {P : Program} {K E t : TypeId} {w : World} {b n : Nat} {L : List Nat} (h : PlMap P K E w b n L) (hk : P.underlying K = some (.int .i64)) (ht : P.underlying t = some (.map K E)) (he : P.underlying E = some (.int .i64))
    (hz : (zeroValue E).run P w = .ok (.int .i64 0) w) {x : Int} (hx : I64 x) : ∃ v, (Instr.lookup t (.map (some b)) (.int .i64 x) true).run P w = .ok (.tuple #[v, .bool (decide (∃ u ∈ L, x = ((u : Nat) : Int)))]) w := by
  obtain ⟨D, h1, h2, h3⟩ := h
  obtain ⟨v, ps, hrun, _⟩ := h1.look_ok (int_keyed hk) ht hz (plainElem_int he (by decide)) (key_int hk hx)
  rw [h3 x] at hrun
  exact ⟨v, hrun⟩
theorem PlMap.put {P : Program} {K E : TypeId} {w : World} {b n : Nat} {L : List Nat} {D : DataW Unit} {u : Nat} {c : Int} (hI : IsMap D) (hat : ∀ x : Int, Maps.has D (.int .i64 x) = decide (∃ u ∈ L, x = ((u : Nat) : Int)))
    (h : w.ownsMap P K (plainElem P E) b n (D.put (.int .i64 (u : Int)) (.lit (.int .i64 c)))) : PlMap P K E w b n (L ++ [u]) := by
  refine ⟨_, h, hI.put _ _, fun y => ?_⟩
  by_cases hy : y = (u : Int)
  · subst hy
    rw [has_put_same hI (by trivial)]
    exact (decide_eq_true ⟨u, by simp, rfl⟩).symm
  · rw [has_put_other (fun e => hy (by injection e)), hat y]
    apply decide_eq_decide.2
    constructor
    · rintro ⟨z, hz, rfl⟩; exact ⟨z, by simp [hz], rfl⟩
    · rintro ⟨z, hz, rfl⟩
      rw [List.mem_append, List.mem_singleton] at hz
      rcases hz with hz | rfl
      · exact ⟨z, hz, rfl⟩
      · exact absurd rfl hy
end Go.Proofs.Ytmbnlihboilacaa
