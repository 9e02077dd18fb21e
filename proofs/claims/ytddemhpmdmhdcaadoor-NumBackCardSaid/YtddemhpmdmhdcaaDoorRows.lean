/-
  NARROWER THAN 'FOR EVERY INPUT', by the rows' own cells (each row's printed sentence says how): NumReads: laid · NumValues: laid · NumBack: laid.
  DERIVED. THE GIVEN ROWS OF THIS SEAT. 3 by the template 'for every input the law returns true; each argument reads behind the call as it read before'; 0 by the template 'total and deterministic' (their statements: YtddemhpmdmhdcaaDoorTotals.lean).
  GIVEN WITH THE SEED: the statements are not yours to turn. If you find one false, say at which input.
  Laid BY PROGRAM, IN A SANDBOX (cutbox-rows.mjs): the forced cells as the released guide's own fill.sh prints them over the translation dd37de58fbe72999… (all of the seat's roots in one cut). By AI agents, Wed Nov 11 2026. No macro, syntax, notation, axiom, sorry.
-/
import Derived.Test.YtddemhpmdmhdcaaDoorChecked
import GoSem.Claim
import GoSem.ClaimJoined
import GoSem.ClaimMapViews
import Derived.JoinedTies
import Derived.KernelRfl
namespace Go.Proofs.YtddemhpmdmhdcaaDoor
/- THE CELL 'sum', in the pinned program and in every row, IS THE sha256 OF THE DUMP (.gsa) THAT YtddemhpmdmhdcaaDoorProg.lean LOADS. Nothing in Lean hashes anything: it is a label: what it is worth is what the hold of that sum in a sandbox is worth. -/
noncomputable def Tryd.pinned : Pinned := { name := "ytddemhpmdmhdcaadoor", sum := "dd37de58fbe729997c84428bc61618c8d4a44c7fd3ab546151c07dfa0634e1fa", checked := Tryd.checked }
namespace Rows
def none {H : Type} : Left H := { results := [], args := [] }

/- WHAT THE LISTED PACKAGE-LEVEL VARIABLES READ AS WHEN THE CALL BEGINS. Each datum BY PROGRAM (the guide's laid-datum.mjs) off the statement by which the dump's own 'gosem.cut.vars' lays the variable. In a bare row this is a premise. The card (YtddemhpmdmhdcaaDoorCards.lean) ties it to the program's text. -/
def laid_ladderback_kind_names {H : Type} : DataW H := .agg [.lit (.string [66, 79, 79, 76]), .lit (.string [73, 78, 84]), .lit (.string [68, 73, 78, 84]), .lit (.string [87, 79, 82, 68]), .lit (.string [68, 87, 79, 82, 68]), .lit (.string [84, 73, 77, 69])]

/-- 'ladderbacklaw04.NumReads': WHATEVER THE INPUT: true; the input reads as it did. -/
def numReadsSpec : ChangeSpec := { name := "numReads", fn := fun _ => fun
  | [d1, d2] => { results := [.lit (.bool true)], args := [d1, d2] }
  | _ => none }
def numReadsRow : OpenClaim := { program := "ytddemhpmdmhdcaadoor", sum := "dd37de58fbe729997c84428bc61618c8d4a44c7fd3ab546151c07dfa0634e1fa", func := "ladderback/ladderbacklaw04.NumReads", spec := "numReads", named := ["ladderback/kind.names"], apart := false, laid := [("ladderback/kind.names", laid_ladderback_kind_names)] }
def NumReadsSaid : Prop := numReadsRow.holds Tryd.pinned (OpenSpec.ofChange numReadsSpec)

/-- ITS FALSE NEIGHBOUR: 'it returns false'. Refute it at one input. -/
def numReadsWrong : ChangeSpec := { name := "numReads", fn := fun _ => fun
  | [d1, d2] => { results := [.lit (.bool false)], args := [d1, d2] }
  | _ => none }
def NumReadsWrongFalsely : Prop := numReadsRow.holds Tryd.pinned (OpenSpec.ofChange numReadsWrong)

/-- 'ladderbacklaw04.NumValues': WHATEVER THE INPUT: true; the input reads as it did. -/
def numValuesSpec : ChangeSpec := { name := "numValues", fn := fun _ => fun
  | [d1, d2, d3] => { results := [.lit (.bool true)], args := [d1, d2, d3] }
  | _ => none }
def numValuesRow : OpenClaim := { program := "ytddemhpmdmhdcaadoor", sum := "dd37de58fbe729997c84428bc61618c8d4a44c7fd3ab546151c07dfa0634e1fa", func := "ladderback/ladderbacklaw04.NumValues", spec := "numValues", inPlace := ["internal/bytealg.IndexByteString", "internal/bytealg.IndexString"], named := ["ladderback/kind.names", "internal/bytealg.MaxLen"], apart := false, laid := [("ladderback/kind.names", laid_ladderback_kind_names)] }
def NumValuesSaid : Prop := numValuesRow.holds Tryd.pinned (OpenSpec.ofChange numValuesSpec)

/-- ITS FALSE NEIGHBOUR: 'it returns false'. Refute it at one input. -/
def numValuesWrong : ChangeSpec := { name := "numValues", fn := fun _ => fun
  | [d1, d2, d3] => { results := [.lit (.bool false)], args := [d1, d2, d3] }
  | _ => none }
def NumValuesWrongFalsely : Prop := numValuesRow.holds Tryd.pinned (OpenSpec.ofChange numValuesWrong)

/-- 'ladderbacklaw04.NumBack': WHATEVER THE INPUT: true; the input reads as it did. -/
def numBackSpec : ChangeSpec := { name := "numBack", fn := fun _ => fun
  | [d1, d2, d3] => { results := [.lit (.bool true)], args := [d1, d2, d3] }
  | _ => none }
def numBackRow : OpenClaim := { program := "ytddemhpmdmhdcaadoor", sum := "dd37de58fbe729997c84428bc61618c8d4a44c7fd3ab546151c07dfa0634e1fa", func := "ladderback/ladderbacklaw04.NumBack", spec := "numBack", inPlace := ["internal/bytealg.IndexByteString", "internal/bytealg.IndexString"], named := ["ladderback/kind.names", "internal/bytealg.MaxLen"], apart := false, laid := [("ladderback/kind.names", laid_ladderback_kind_names)] }
def NumBackSaid : Prop := numBackRow.holds Tryd.pinned (OpenSpec.ofChange numBackSpec)

/-- ITS FALSE NEIGHBOUR: 'it returns false'. Refute it at one input. -/
def numBackWrong : ChangeSpec := { name := "numBack", fn := fun _ => fun
  | [d1, d2, d3] => { results := [.lit (.bool false)], args := [d1, d2, d3] }
  | _ => none }
def NumBackWrongFalsely : Prop := numBackRow.holds Tryd.pinned (OpenSpec.ofChange numBackWrong)

/- THE SECOND FORM. 'bulk': how many values and letters a reading holds, each counted each time it is reached (what is shared counts as often as it is met; a slice's spare places count too). A statement '..UptoSaid' is the law's where the arguments, and the package variables that the reading takes, are together of bulk at most 1048576: NARROWER than '..Said'. Prove '..Said' where nothing that the law and all that it calls make is longer than what came in: it says more and counts as full. Else prove '..UptoSaid'. A law counts once. -/
mutual
def uptoBulk {H : Type} : DataW H → Nat
  | .lit (.string bytes) => bytes.length + 1
  | .lit _ => 1
  | .nil => 1
  | .ptr d => uptoBulk d + 1
  | .slice elems spare => uptoBulkAll elems + uptoBulkAll spare + 1
  | .agg parts => uptoBulkAll parts + 1
  | .iface _ d => uptoBulk d + 1
  | .map entries => uptoBulkEntries entries + 1
  | .held _ => 1
def uptoBulkAll {H : Type} : List (DataW H) → Nat
  | [] => 0
  | d :: r => uptoBulk d + uptoBulkAll r
def uptoBulkEntries {H : Type} : List (Lit × DataW H) → Nat
  | [] => 0
  | x :: r => uptoBulkEntry x + uptoBulkEntries r
def uptoBulkEntry {H : Type} : Lit × DataW H → Nat
  | (.string bytes, d) => bytes.length + uptoBulk d + 1
  | (_, d) => uptoBulk d + 1
 end
def uptoSmall : (H : Type) → List (DataW H) → Bool := fun _ ds => decide (uptoBulkAll ds ≤ 1048576)
def OpenSpec.upto (s : _root_.Go.ChangeSpec) : _root_.Go.OpenSpec := { _root_.Go.OpenSpec.ofChange s with cond := some uptoSmall }

/-- 'ladderbacklaw04.NumReads', WHERE WHAT IT READS IS OF BULK AT MOST 1048576: true; the input reads as it did. -/
def numReadsUptoRow : OpenClaim := { program := "ytddemhpmdmhdcaadoor", sum := "dd37de58fbe729997c84428bc61618c8d4a44c7fd3ab546151c07dfa0634e1fa", func := "ladderback/ladderbacklaw04.NumReads", spec := "numReads", named := ["ladderback/kind.names"], apart := false, laid := [("ladderback/kind.names", laid_ladderback_kind_names)], narrowed := true }
def NumReadsUptoSaid : Prop := numReadsUptoRow.holds Tryd.pinned (OpenSpec.upto numReadsSpec)

/-- 'ladderbacklaw04.NumValues', WHERE WHAT IT READS IS OF BULK AT MOST 1048576: true; the input reads as it did. -/
def numValuesUptoRow : OpenClaim := { program := "ytddemhpmdmhdcaadoor", sum := "dd37de58fbe729997c84428bc61618c8d4a44c7fd3ab546151c07dfa0634e1fa", func := "ladderback/ladderbacklaw04.NumValues", spec := "numValues", inPlace := ["internal/bytealg.IndexByteString", "internal/bytealg.IndexString"], named := ["ladderback/kind.names", "internal/bytealg.MaxLen"], apart := false, laid := [("ladderback/kind.names", laid_ladderback_kind_names)], narrowed := true }
def NumValuesUptoSaid : Prop := numValuesUptoRow.holds Tryd.pinned (OpenSpec.upto numValuesSpec)

/-- 'ladderbacklaw04.NumBack', WHERE WHAT IT READS IS OF BULK AT MOST 1048576: true; the input reads as it did. -/
def numBackUptoRow : OpenClaim := { program := "ytddemhpmdmhdcaadoor", sum := "dd37de58fbe729997c84428bc61618c8d4a44c7fd3ab546151c07dfa0634e1fa", func := "ladderback/ladderbacklaw04.NumBack", spec := "numBack", inPlace := ["internal/bytealg.IndexByteString", "internal/bytealg.IndexString"], named := ["ladderback/kind.names", "internal/bytealg.MaxLen"], apart := false, laid := [("ladderback/kind.names", laid_ladderback_kind_names)], narrowed := true }
def NumBackUptoSaid : Prop := numBackUptoRow.holds Tryd.pinned (OpenSpec.upto numBackSpec)

end Rows
end Go.Proofs.YtddemhpmdmhdcaaDoor
