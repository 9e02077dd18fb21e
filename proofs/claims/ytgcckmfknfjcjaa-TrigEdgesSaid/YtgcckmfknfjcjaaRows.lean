/-
  No cell of these rows narrows 'for every input' (looked for: loops, veiled, ifaces, maps, wideKeys, modest, calm, conditions, laid).
  DERIVED. THE GIVEN ROWS OF THIS SEAT. 2 by the template 'for every input the law returns true; each argument reads behind the call as it read before'; 0 by the template 'total and deterministic' (their statements: YtgcckmfknfjcjaaTotals.lean).
  GIVEN WITH THE SEED: the statements are not yours to turn. If you find one false, say at which input.
  Laid BY PROGRAM, IN A SANDBOX (cutbox-rows.mjs): the forced cells as the released guide's own fill.sh prints them over the translation dd99454e69f5cd7f… (all of the seat's roots in one cut). By AI agents, Wed Nov 11 2026. No macro, syntax, notation, axiom, sorry.
-/
import Derived.Test.YtgcckmfknfjcjaaChecked
import GoSem.Claim
import GoSem.ClaimJoined
import GoSem.ClaimMapViews
import Derived.JoinedTies
import Derived.KernelRfl
namespace Go.Proofs.Ytgcckmfknfjcjaa
/- THE CELL 'sum', in the pinned program and in every row, IS THE sha256 OF THE DUMP (.gsa) THAT YtgcckmfknfjcjaaProg.lean LOADS. Nothing in Lean hashes anything: it is a label: what it is worth is what the hold of that sum in a sandbox is worth. -/
noncomputable def Try.pinned : Pinned := { name := "ytgcckmfknfjcjaa", sum := "dd99454e69f5cd7f0ec9cfc42a22b290ea6933b68bbbcc7aa4469e1d7065f856", checked := Try.checked }
namespace Rows
def none {H : Type} : Left H := { results := [], args := [] }

/-- 'ladderbacklaw10.TrigSteps': WHATEVER THE INPUT: true; the input reads as it did. -/
def trigStepsSpec : ChangeSpec := { name := "trigSteps", fn := fun _ => fun
  | [d1, d2] => { results := [.lit (.bool true)], args := [d1, d2] }
  | _ => none }
def trigStepsRow : OpenClaim := { program := "ytgcckmfknfjcjaa", sum := "dd99454e69f5cd7f0ec9cfc42a22b290ea6933b68bbbcc7aa4469e1d7065f856", func := "ladderback/ladderbacklaw10.TrigSteps", spec := "trigSteps", apart := false }
def TrigStepsSaid : Prop := trigStepsRow.holds Try.pinned (OpenSpec.ofChange trigStepsSpec)

/-- ITS FALSE NEIGHBOUR: 'it returns false'. Refute it at one input. -/
def trigStepsWrong : ChangeSpec := { name := "trigSteps", fn := fun _ => fun
  | [d1, d2] => { results := [.lit (.bool false)], args := [d1, d2] }
  | _ => none }
def TrigStepsWrongFalsely : Prop := trigStepsRow.holds Try.pinned (OpenSpec.ofChange trigStepsWrong)

/-- 'ladderbacklaw10.TrigEdges': WHATEVER THE INPUT: true; the input reads as it did. -/
def trigEdgesSpec : ChangeSpec := { name := "trigEdges", fn := fun _ => fun
  | [d] => { results := [.lit (.bool true)], args := [d] }
  | _ => none }
def trigEdgesRow : OpenClaim := { program := "ytgcckmfknfjcjaa", sum := "dd99454e69f5cd7f0ec9cfc42a22b290ea6933b68bbbcc7aa4469e1d7065f856", func := "ladderback/ladderbacklaw10.TrigEdges", spec := "trigEdges", apart := false }
def TrigEdgesSaid : Prop := trigEdgesRow.holds Try.pinned (OpenSpec.ofChange trigEdgesSpec)

/-- ITS FALSE NEIGHBOUR: 'it returns false'. Refute it at one input. -/
def trigEdgesWrong : ChangeSpec := { name := "trigEdges", fn := fun _ => fun
  | [d] => { results := [.lit (.bool false)], args := [d] }
  | _ => none }
def TrigEdgesWrongFalsely : Prop := trigEdgesRow.holds Try.pinned (OpenSpec.ofChange trigEdgesWrong)

/- THE SECOND FORM. 'bulk': how many values and letters a reading holds, each counted each time it is reached (what is shared counts as often as it is met; a slice's spare places count too). A statement '..UptoSaid' is the law's where the arguments, and the package variables that the reading takes, are together of bulk at most 1048576: NARROWER than '..Said'. Prove '..Said' where nothing that the law and all that it calls make is longer than what came in: it says more and counts as full. Else prove '..UptoSaid'. A law counts once. -/
mutual
def uptoBulk {H : Type} : DataW H → Nat
  | .lit (.string bytes) => bytes.length + 1
  | .lit _ => 1
  | .nil => 1
  | .ptr d => uptoBulk d + 1
  | .slice elems spare => uptoBulkAll elems + uptoBulkAll spare + 1
  | .agg parts => uptoBulkAll parts + 1
  | .iface _ d => uptoBulk d + 1
  | .map entries => uptoBulkEntries entries + 1
  | .held _ => 1
def uptoBulkAll {H : Type} : List (DataW H) → Nat
  | [] => 0
  | d :: r => uptoBulk d + uptoBulkAll r
def uptoBulkEntries {H : Type} : List (Lit × DataW H) → Nat
  | [] => 0
  | x :: r => uptoBulkEntry x + uptoBulkEntries r
def uptoBulkEntry {H : Type} : Lit × DataW H → Nat
  | (.string bytes, d) => bytes.length + uptoBulk d + 1
  | (_, d) => uptoBulk d + 1
 end
def uptoSmall : (H : Type) → List (DataW H) → Bool := fun _ ds => decide (uptoBulkAll ds ≤ 1048576)
def OpenSpec.upto (s : _root_.Go.ChangeSpec) : _root_.Go.OpenSpec := { _root_.Go.OpenSpec.ofChange s with cond := some uptoSmall }

/-- 'ladderbacklaw10.TrigSteps', WHERE WHAT IT READS IS OF BULK AT MOST 1048576: true; the input reads as it did. -/
def trigStepsUptoRow : OpenClaim := { program := "ytgcckmfknfjcjaa", sum := "dd99454e69f5cd7f0ec9cfc42a22b290ea6933b68bbbcc7aa4469e1d7065f856", func := "ladderback/ladderbacklaw10.TrigSteps", spec := "trigSteps", apart := false, narrowed := true }
def TrigStepsUptoSaid : Prop := trigStepsUptoRow.holds Try.pinned (OpenSpec.upto trigStepsSpec)

/-- 'ladderbacklaw10.TrigEdges', WHERE WHAT IT READS IS OF BULK AT MOST 1048576: true; the input reads as it did. -/
def trigEdgesUptoRow : OpenClaim := { program := "ytgcckmfknfjcjaa", sum := "dd99454e69f5cd7f0ec9cfc42a22b290ea6933b68bbbcc7aa4469e1d7065f856", func := "ladderback/ladderbacklaw10.TrigEdges", spec := "trigEdges", apart := false, narrowed := true }
def TrigEdgesUptoSaid : Prop := trigEdgesUptoRow.holds Try.pinned (OpenSpec.upto trigEdgesSpec)

end Rows
end Go.Proofs.Ytgcckmfknfjcjaa
