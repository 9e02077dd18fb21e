/- Layer 17: functions that ask, one behind the other; what each asks. -/
import Derived.Test.YtpecpeedefeokaaDoorPgm
import Derived.Test.YtpecpeedefeokaaDoorKind
import Derived.Test.YtpecpeedefeokaaDoorKeep
import Derived.Test.YtpecpeedefeokaaDoorMoreB
import Derived.Test.YtpecpeedefeokaaDoorHeldMore
import Derived.Test.YtpecpeedefeokaaDoorObj
import Derived.Test.YtpecpeedefeokaaDoorTablesR
import Derived.Test.YtpecpeedefeokaaDoorBlockC
import Derived.Deep.RegionHeld3
import Derived.LoopTactic
import Derived.OwnWalk
import Derived.Deep.QuietTactic
import Derived.BigQuiet
import Derived.WalkSmall
import Derived.IntWalk
namespace Go.Proofs.YtpecpeedefeokaaDoor
open Go.RowKit
set_option linter.unusedSimpArgs false
set_option linter.unusedVariables false
abbrev Fun := Nat × Array Value
def funcR : Rep Fun := fun _ cs f => cs = [.func (.func f.1) #[] f.2]
theorem funcR_stable : Stable funcR := fun _ _ _ _ h _ => h
def firstE (es : List Int) : Int := (es.find? (· != 0)).getD 0
theorem firstE_at {es : List Int} {k : Nat} {z : Int} (h : ∀ x ∈ es.take k, x = 0) (hk : es[k]? = some z) (hz : z ≠ 0) : firstE es = z := by
  unfold firstE
  rw [← List.take_append_drop k es, List.find?_append]
  have h0 : (es.take k).find? (· != 0) = none := List.find?_eq_none.2 fun x hx => by simp [h x hx]
  have hd : es.drop k = z :: es.drop (k + 1) := by
    have hl := lt_of_get hk
    rw [List.drop_eq_getElem_cons hl]
    congr 1
    have := List.getElem?_eq_some_iff.1 hk
    obtain ⟨_, this⟩ := this
    exact this
  rw [h0, hd]
  simp [hz]
theorem firstE_none {es : List Int} (h : ∀ x ∈ es, x = 0) : firstE es = 0 := by
  unfold firstE
  rw [List.find?_eq_none.2 fun x hx => by simp [h x hx]]
  rfl
end Go.Proofs.YtpecpeedefeokaaDoor
