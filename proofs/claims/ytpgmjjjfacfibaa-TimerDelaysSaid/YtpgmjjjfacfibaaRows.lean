/-
  No cell of these rows narrows 'for every input' (looked for: loops, veiled, ifaces, maps, wideKeys, modest, calm, conditions, laid).
  DERIVED. THE GIVEN ROWS OF THIS SEAT. 3 by the template 'for every input the law returns true; each argument reads behind the call as it read before'; 0 by the template 'total and deterministic' (their statements: YtpgmjjjfacfibaaTotals.lean).
  GIVEN WITH THE SEED: the statements are not yours to turn. If you find one false, say at which input.
  Laid BY PROGRAM, IN A SANDBOX (cutbox-rows.mjs): the forced cells as the released guide's own fill.sh prints them over the translation c5c445ec105ccf77… (all of the seat's roots in one cut). By AI agents, Wed Nov 11 2026. No macro, syntax, notation, axiom, sorry.
-/
import Derived.Test.YtpgmjjjfacfibaaChecked
import GoSem.Claim
import GoSem.ClaimJoined
import GoSem.ClaimMapViews
import Derived.JoinedTies
import Derived.KernelRfl
namespace Go.Proofs.Ytpgmjjjfacfibaa
/- THE CELL 'sum', in the pinned program and in every row, IS THE sha256 OF THE DUMP (.gsa) THAT YtpgmjjjfacfibaaProg.lean LOADS. Nothing in Lean hashes anything: it is a label: what it is worth is what the hold of that sum in a sandbox is worth. -/
noncomputable def Try.pinned : Pinned := { name := "ytpgmjjjfacfibaa", sum := "c5c445ec105ccf772adc7729872da6baa3c05cb791b96ea5e72fbbed3e8af80b", checked := Try.checked }
namespace Rows
def none {H : Type} : Left H := { results := [], args := [] }

/-- 'ladderbacklaw08.TimerSteps': WHATEVER THE INPUT: true; the input reads as it did. -/
def timerStepsSpec : ChangeSpec := { name := "timerSteps", fn := fun _ => fun
  | [d1, d2, d3] => { results := [.lit (.bool true)], args := [d1, d2, d3] }
  | _ => none }
def timerStepsRow : OpenClaim := { program := "ytpgmjjjfacfibaa", sum := "c5c445ec105ccf772adc7729872da6baa3c05cb791b96ea5e72fbbed3e8af80b", func := "ladderback/ladderbacklaw08.TimerSteps", spec := "timerSteps", apart := false }
def TimerStepsSaid : Prop := timerStepsRow.holds Try.pinned (OpenSpec.ofChange timerStepsSpec)

/-- ITS FALSE NEIGHBOUR: 'it returns false'. Refute it at one input. -/
def timerStepsWrong : ChangeSpec := { name := "timerSteps", fn := fun _ => fun
  | [d1, d2, d3] => { results := [.lit (.bool false)], args := [d1, d2, d3] }
  | _ => none }
def TimerStepsWrongFalsely : Prop := timerStepsRow.holds Try.pinned (OpenSpec.ofChange timerStepsWrong)

/-- 'ladderbacklaw08.TimerDelays': WHATEVER THE INPUT: true; the input reads as it did. -/
def timerDelaysSpec : ChangeSpec := { name := "timerDelays", fn := fun _ => fun
  | [d1, d2] => { results := [.lit (.bool true)], args := [d1, d2] }
  | _ => none }
def timerDelaysRow : OpenClaim := { program := "ytpgmjjjfacfibaa", sum := "c5c445ec105ccf772adc7729872da6baa3c05cb791b96ea5e72fbbed3e8af80b", func := "ladderback/ladderbacklaw08.TimerDelays", spec := "timerDelays", apart := false }
def TimerDelaysSaid : Prop := timerDelaysRow.holds Try.pinned (OpenSpec.ofChange timerDelaysSpec)

/-- ITS FALSE NEIGHBOUR: 'it returns false'. Refute it at one input. -/
def timerDelaysWrong : ChangeSpec := { name := "timerDelays", fn := fun _ => fun
  | [d1, d2] => { results := [.lit (.bool false)], args := [d1, d2] }
  | _ => none }
def TimerDelaysWrongFalsely : Prop := timerDelaysRow.holds Try.pinned (OpenSpec.ofChange timerDelaysWrong)

/-- 'ladderbacklaw08.TimerPulses': WHATEVER THE INPUT: true; the input reads as it did. -/
def timerPulsesSpec : ChangeSpec := { name := "timerPulses", fn := fun _ => fun
  | [d1, d2] => { results := [.lit (.bool true)], args := [d1, d2] }
  | _ => none }
def timerPulsesRow : OpenClaim := { program := "ytpgmjjjfacfibaa", sum := "c5c445ec105ccf772adc7729872da6baa3c05cb791b96ea5e72fbbed3e8af80b", func := "ladderback/ladderbacklaw08.TimerPulses", spec := "timerPulses", apart := false }
def TimerPulsesSaid : Prop := timerPulsesRow.holds Try.pinned (OpenSpec.ofChange timerPulsesSpec)

/-- ITS FALSE NEIGHBOUR: 'it returns false'. Refute it at one input. -/
def timerPulsesWrong : ChangeSpec := { name := "timerPulses", fn := fun _ => fun
  | [d1, d2] => { results := [.lit (.bool false)], args := [d1, d2] }
  | _ => none }
def TimerPulsesWrongFalsely : Prop := timerPulsesRow.holds Try.pinned (OpenSpec.ofChange timerPulsesWrong)

/- THE SECOND FORM. 'bulk': how many values and letters a reading holds, each counted each time it is reached (what is shared counts as often as it is met; a slice's spare places count too). A statement '..UptoSaid' is the law's where the arguments, and the package variables that the reading takes, are together of bulk at most 1048576: NARROWER than '..Said'. Prove '..Said' where nothing that the law and all that it calls make is longer than what came in: it says more and counts as full. Else prove '..UptoSaid'. A law counts once. -/
mutual
def uptoBulk {H : Type} : DataW H → Nat
  | .lit (.string bytes) => bytes.length + 1
  | .lit _ => 1
  | .nil => 1
  | .ptr d => uptoBulk d + 1
  | .slice elems spare => uptoBulkAll elems + uptoBulkAll spare + 1
  | .agg parts => uptoBulkAll parts + 1
  | .iface _ d => uptoBulk d + 1
  | .map entries => uptoBulkEntries entries + 1
  | .held _ => 1
def uptoBulkAll {H : Type} : List (DataW H) → Nat
  | [] => 0
  | d :: r => uptoBulk d + uptoBulkAll r
def uptoBulkEntries {H : Type} : List (Lit × DataW H) → Nat
  | [] => 0
  | x :: r => uptoBulkEntry x + uptoBulkEntries r
def uptoBulkEntry {H : Type} : Lit × DataW H → Nat
  | (.string bytes, d) => bytes.length + uptoBulk d + 1
  | (_, d) => uptoBulk d + 1
 end
def uptoSmall : (H : Type) → List (DataW H) → Bool := fun _ ds => decide (uptoBulkAll ds ≤ 1048576)
def OpenSpec.upto (s : _root_.Go.ChangeSpec) : _root_.Go.OpenSpec := { _root_.Go.OpenSpec.ofChange s with cond := some uptoSmall }

/-- 'ladderbacklaw08.TimerSteps', WHERE WHAT IT READS IS OF BULK AT MOST 1048576: true; the input reads as it did. -/
def timerStepsUptoRow : OpenClaim := { program := "ytpgmjjjfacfibaa", sum := "c5c445ec105ccf772adc7729872da6baa3c05cb791b96ea5e72fbbed3e8af80b", func := "ladderback/ladderbacklaw08.TimerSteps", spec := "timerSteps", apart := false, narrowed := true }
def TimerStepsUptoSaid : Prop := timerStepsUptoRow.holds Try.pinned (OpenSpec.upto timerStepsSpec)

/-- 'ladderbacklaw08.TimerDelays', WHERE WHAT IT READS IS OF BULK AT MOST 1048576: true; the input reads as it did. -/
def timerDelaysUptoRow : OpenClaim := { program := "ytpgmjjjfacfibaa", sum := "c5c445ec105ccf772adc7729872da6baa3c05cb791b96ea5e72fbbed3e8af80b", func := "ladderback/ladderbacklaw08.TimerDelays", spec := "timerDelays", apart := false, narrowed := true }
def TimerDelaysUptoSaid : Prop := timerDelaysUptoRow.holds Try.pinned (OpenSpec.upto timerDelaysSpec)

/-- 'ladderbacklaw08.TimerPulses', WHERE WHAT IT READS IS OF BULK AT MOST 1048576: true; the input reads as it did. -/
def timerPulsesUptoRow : OpenClaim := { program := "ytpgmjjjfacfibaa", sum := "c5c445ec105ccf772adc7729872da6baa3c05cb791b96ea5e72fbbed3e8af80b", func := "ladderback/ladderbacklaw08.TimerPulses", spec := "timerPulses", apart := false, narrowed := true }
def TimerPulsesUptoSaid : Prop := timerPulsesUptoRow.holds Try.pinned (OpenSpec.upto timerPulsesSpec)

end Rows
end Go.Proofs.Ytpgmjjjfacfibaa
