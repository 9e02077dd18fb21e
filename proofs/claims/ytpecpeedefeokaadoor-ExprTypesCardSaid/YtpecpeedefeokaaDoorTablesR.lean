/- Layer 17: what is wrong of tables, by the answer. -/
import Derived.Test.YtpecpeedefeokaaDoorPgm
import Derived.Test.YtpecpeedefeokaaDoorKind
import Derived.Test.YtpecpeedefeokaaDoorKeep
import Derived.Test.YtpecpeedefeokaaDoorMoreB
import Derived.Test.YtpecpeedefeokaaDoorHeldMore
import Derived.Deep.RegionHeld3
import Derived.LoopTactic
import Derived.OwnWalk
import Derived.Deep.QuietTactic
import Derived.BigQuiet
import Derived.WalkSmall
import Derived.IntWalk
namespace Go.Proofs.YtpecpeedefeokaaDoor
open Go.RowKit
set_option linter.unusedSimpArgs false
set_option linter.unusedVariables false
def goodV (x : Vr) : Bool := kRight x.t && (kIn x.t x.init && decide (1 ≤ x.n ∧ x.n ≤ 16 ∧ 0 ≤ x.area ∧ x.area ≤ 2))
def goodB (x : Bk) : Bool := decide (1 ≤ x.kind ∧ x.kind ≤ 8)
def tablesE (V : List Vr) (B : List Bk) : Int := if 64 < V.length ∨ 32 < B.length then 5 else if V.all goodV && B.all goodB then 0 else 10
theorem good_no {x : Vr} (h : kRight x.t = false ∨ kIn x.t x.init = false ∨ ¬ (1 ≤ x.n ∧ x.n ≤ 16 ∧ 0 ≤ x.area ∧ x.area ≤ 2)) : goodV x = false := by
  unfold goodV
  rcases h with h | h | h
  · rw [h]; rfl
  · rw [h]; simp
  · rw [decide_eq_false h]; simp
theorem good_yes {x : Vr} (h1 : kRight x.t = true) (h2 : kIn x.t x.init = true) (h3 : 1 ≤ x.n ∧ x.n ≤ 16 ∧ 0 ≤ x.area ∧ x.area ≤ 2) : goodV x = true := by
  unfold goodV; rw [h1, h2, decide_eq_true h3]; rfl
end Go.Proofs.YtpecpeedefeokaaDoor
