/-
  NARROWER THAN 'FOR EVERY INPUT', by the rows' own cells (each row's printed sentence says how): BoxEncodes: laid · BoxDecodes: laid · BoxBack: laid · BoxOne: laid.
  DERIVED. THE GIVEN ROWS OF THIS SEAT. 4 by the template 'for every input the law returns true; each argument reads behind the call as it read before'; 0 by the template 'total and deterministic' (their statements: YtjikkipdmonndaaDoorTotals.lean).
  GIVEN WITH THE SEED: the statements are not yours to turn. If you find one false, say at which input.
  Laid BY PROGRAM, IN A SANDBOX (cutbox-rows.mjs): the forced cells as the released guide's own fill.sh prints them over the translation 676391ea895ea275… (all of the seat's roots in one cut). By AI agents, Wed Nov 11 2026. No macro, syntax, notation, axiom, sorry.
-/
import Derived.Test.YtjikkipdmonndaaDoorChecked
import GoSem.Claim
import GoSem.ClaimJoined
import GoSem.ClaimMapViews
import Derived.JoinedTies
import Derived.KernelRfl
namespace Go.Proofs.YtjikkipdmonndaaDoor
/- THE CELL 'sum', in the pinned program and in every row, IS THE sha256 OF THE DUMP (.gsa) THAT YtjikkipdmonndaaDoorProg.lean LOADS. Nothing in Lean hashes anything: it is a label: what it is worth is what the hold of that sum in a sandbox is worth. -/
noncomputable def Tryd.pinned : Pinned := { name := "ytjikkipdmonndaadoor", sum := "676391ea895ea2759991a6bcad622f743ffae4d17a0e82493b036ca765758287", checked := Tryd.checked }
namespace Rows
def none {H : Type} : Left H := { results := [], args := [] }

/- WHAT THE LISTED PACKAGE-LEVEL VARIABLES READ AS WHEN THE CALL BEGINS. Each datum BY PROGRAM (the guide's laid-datum.mjs) off the statement by which the dump's own 'gosem.cut.vars' lays the variable. In a bare row this is a premise. The card (YtjikkipdmonndaaDoorCards.lean) ties it to the program's text. -/
def laid_ladderback_op_shapes {H : Type} : DataW H := .agg [.agg [.lit (.int .i64 10), .lit (.int .i64 10)], .agg [.lit (.int .i64 1), .lit (.int .i64 0)], .agg [.lit (.int .i64 2), .lit (.int .i64 0)], .agg [.lit (.int .i64 2), .lit (.int .i64 0)], .agg [.lit (.int .i64 3), .lit (.int .i64 0)], .agg [.lit (.int .i64 3), .lit (.int .i64 0)], .agg [.lit (.int .i64 2), .lit (.int .i64 0)], .agg [.lit (.int .i64 2), .lit (.int .i64 0)], .agg [.lit (.int .i64 0), .lit (.int .i64 0)], .agg [.lit (.int .i64 0), .lit (.int .i64 0)], .agg [.lit (.int .i64 0), .lit (.int .i64 0)], .agg [.lit (.int .i64 0), .lit (.int .i64 0)], .agg [.lit (.int .i64 0), .lit (.int .i64 0)], .agg [.lit (.int .i64 0), .lit (.int .i64 0)], .agg [.lit (.int .i64 0), .lit (.int .i64 0)], .agg [.lit (.int .i64 0), .lit (.int .i64 0)], .agg [.lit (.int .i64 0), .lit (.int .i64 0)], .agg [.lit (.int .i64 0), .lit (.int .i64 0)], .agg [.lit (.int .i64 0), .lit (.int .i64 0)], .agg [.lit (.int .i64 0), .lit (.int .i64 0)], .agg [.lit (.int .i64 0), .lit (.int .i64 0)], .agg [.lit (.int .i64 0), .lit (.int .i64 0)], .agg [.lit (.int .i64 0), .lit (.int .i64 0)], .agg [.lit (.int .i64 0), .lit (.int .i64 0)], .agg [.lit (.int .i64 0), .lit (.int .i64 0)], .agg [.lit (.int .i64 0), .lit (.int .i64 0)], .agg [.lit (.int .i64 4), .lit (.int .i64 4)], .agg [.lit (.int .i64 0), .lit (.int .i64 0)], .agg [.lit (.int .i64 0), .lit (.int .i64 0)], .agg [.lit (.int .i64 0), .lit (.int .i64 0)], .agg [.lit (.int .i64 5), .lit (.int .i64 10)], .agg [.lit (.int .i64 5), .lit (.int .i64 10)], .agg [.lit (.int .i64 6), .lit (.int .i64 10)], .agg [.lit (.int .i64 7), .lit (.int .i64 0)], .agg [.lit (.int .i64 0), .lit (.int .i64 0)], .agg [.lit (.int .i64 8), .lit (.int .i64 9)], .agg [.lit (.int .i64 8), .lit (.int .i64 0)], .agg [.lit (.int .i64 8), .lit (.int .i64 9)]]

/-- 'ladderbacklaw16.BoxEncodes': WHATEVER THE INPUT: true; the input reads as it did. -/
def boxEncodesSpec : ChangeSpec := { name := "boxEncodes", fn := fun _ => fun
  | [d1, d2] => { results := [.lit (.bool true)], args := [d1, d2] }
  | _ => none }
def boxEncodesRow : OpenClaim := { program := "ytjikkipdmonndaadoor", sum := "676391ea895ea2759991a6bcad622f743ffae4d17a0e82493b036ca765758287", func := "ladderback/ladderbacklaw16.BoxEncodes", spec := "boxEncodes", unfollowed := true, recurses := true, named := ["ladderback/op.shapes"], apart := false, laid := [("ladderback/op.shapes", laid_ladderback_op_shapes)] }
def BoxEncodesSaid : Prop := boxEncodesRow.holds Tryd.pinned (OpenSpec.ofChange boxEncodesSpec)

/-- ITS FALSE NEIGHBOUR: 'it returns false'. Refute it at one input. -/
def boxEncodesWrong : ChangeSpec := { name := "boxEncodes", fn := fun _ => fun
  | [d1, d2] => { results := [.lit (.bool false)], args := [d1, d2] }
  | _ => none }
def BoxEncodesWrongFalsely : Prop := boxEncodesRow.holds Tryd.pinned (OpenSpec.ofChange boxEncodesWrong)

/-- 'ladderbacklaw16.BoxDecodes': WHATEVER THE INPUT: true; the input reads as it did. -/
def boxDecodesSpec : ChangeSpec := { name := "boxDecodes", fn := fun _ => fun
  | [d] => { results := [.lit (.bool true)], args := [d] }
  | _ => none }
def boxDecodesRow : OpenClaim := { program := "ytjikkipdmonndaadoor", sum := "676391ea895ea2759991a6bcad622f743ffae4d17a0e82493b036ca765758287", func := "ladderback/ladderbacklaw16.BoxDecodes", spec := "boxDecodes", unfollowed := true, recurses := true, named := ["ladderback/op.shapes"], apart := false, laid := [("ladderback/op.shapes", laid_ladderback_op_shapes)] }
def BoxDecodesSaid : Prop := boxDecodesRow.holds Tryd.pinned (OpenSpec.ofChange boxDecodesSpec)

/-- ITS FALSE NEIGHBOUR: 'it returns false'. Refute it at one input. -/
def boxDecodesWrong : ChangeSpec := { name := "boxDecodes", fn := fun _ => fun
  | [d] => { results := [.lit (.bool false)], args := [d] }
  | _ => none }
def BoxDecodesWrongFalsely : Prop := boxDecodesRow.holds Tryd.pinned (OpenSpec.ofChange boxDecodesWrong)

/-- 'ladderbacklaw16.BoxBack': WHATEVER THE INPUT: true; the input reads as it did. -/
def boxBackSpec : ChangeSpec := { name := "boxBack", fn := fun _ => fun
  | [d1, d2] => { results := [.lit (.bool true)], args := [d1, d2] }
  | _ => none }
def boxBackRow : OpenClaim := { program := "ytjikkipdmonndaadoor", sum := "676391ea895ea2759991a6bcad622f743ffae4d17a0e82493b036ca765758287", func := "ladderback/ladderbacklaw16.BoxBack", spec := "boxBack", unfollowed := true, recurses := true, named := ["ladderback/op.shapes"], apart := false, laid := [("ladderback/op.shapes", laid_ladderback_op_shapes)] }
def BoxBackSaid : Prop := boxBackRow.holds Tryd.pinned (OpenSpec.ofChange boxBackSpec)

/-- ITS FALSE NEIGHBOUR: 'it returns false'. Refute it at one input. -/
def boxBackWrong : ChangeSpec := { name := "boxBack", fn := fun _ => fun
  | [d1, d2] => { results := [.lit (.bool false)], args := [d1, d2] }
  | _ => none }
def BoxBackWrongFalsely : Prop := boxBackRow.holds Tryd.pinned (OpenSpec.ofChange boxBackWrong)

/-- 'ladderbacklaw16.BoxOne': WHATEVER THE INPUT: true; the input reads as it did. -/
def boxOneSpec : ChangeSpec := { name := "boxOne", fn := fun _ => fun
  | [d1, d2, d3] => { results := [.lit (.bool true)], args := [d1, d2, d3] }
  | _ => none }
def boxOneRow : OpenClaim := { program := "ytjikkipdmonndaadoor", sum := "676391ea895ea2759991a6bcad622f743ffae4d17a0e82493b036ca765758287", func := "ladderback/ladderbacklaw16.BoxOne", spec := "boxOne", unfollowed := true, recurses := true, named := ["ladderback/op.shapes"], apart := false, laid := [("ladderback/op.shapes", laid_ladderback_op_shapes)] }
def BoxOneSaid : Prop := boxOneRow.holds Tryd.pinned (OpenSpec.ofChange boxOneSpec)

/-- ITS FALSE NEIGHBOUR: 'it returns false'. Refute it at one input. -/
def boxOneWrong : ChangeSpec := { name := "boxOne", fn := fun _ => fun
  | [d1, d2, d3] => { results := [.lit (.bool false)], args := [d1, d2, d3] }
  | _ => none }
def BoxOneWrongFalsely : Prop := boxOneRow.holds Tryd.pinned (OpenSpec.ofChange boxOneWrong)

/- THE SECOND FORM. 'bulk': how many values and letters a reading holds, each counted each time it is reached (what is shared counts as often as it is met; a slice's spare places count too). A statement '..UptoSaid' is the law's where the arguments, and the package variables that the reading takes, are together of bulk at most 1048576: NARROWER than '..Said'. Prove '..Said' where nothing that the law and all that it calls make is longer than what came in: it says more and counts as full. Else prove '..UptoSaid'. A law counts once. -/
mutual
def uptoBulk {H : Type} : DataW H → Nat
  | .lit (.string bytes) => bytes.length + 1
  | .lit _ => 1
  | .nil => 1
  | .ptr d => uptoBulk d + 1
  | .slice elems spare => uptoBulkAll elems + uptoBulkAll spare + 1
  | .agg parts => uptoBulkAll parts + 1
  | .iface _ d => uptoBulk d + 1
  | .map entries => uptoBulkEntries entries + 1
  | .held _ => 1
def uptoBulkAll {H : Type} : List (DataW H) → Nat
  | [] => 0
  | d :: r => uptoBulk d + uptoBulkAll r
def uptoBulkEntries {H : Type} : List (Lit × DataW H) → Nat
  | [] => 0
  | x :: r => uptoBulkEntry x + uptoBulkEntries r
def uptoBulkEntry {H : Type} : Lit × DataW H → Nat
  | (.string bytes, d) => bytes.length + uptoBulk d + 1
  | (_, d) => uptoBulk d + 1
 end
def uptoSmall : (H : Type) → List (DataW H) → Bool := fun _ ds => decide (uptoBulkAll ds ≤ 1048576)
def OpenSpec.upto (s : _root_.Go.ChangeSpec) : _root_.Go.OpenSpec := { _root_.Go.OpenSpec.ofChange s with cond := some uptoSmall }

/-- 'ladderbacklaw16.BoxEncodes', WHERE WHAT IT READS IS OF BULK AT MOST 1048576: true; the input reads as it did. -/
def boxEncodesUptoRow : OpenClaim := { program := "ytjikkipdmonndaadoor", sum := "676391ea895ea2759991a6bcad622f743ffae4d17a0e82493b036ca765758287", func := "ladderback/ladderbacklaw16.BoxEncodes", spec := "boxEncodes", unfollowed := true, recurses := true, named := ["ladderback/op.shapes"], apart := false, laid := [("ladderback/op.shapes", laid_ladderback_op_shapes)], narrowed := true }
def BoxEncodesUptoSaid : Prop := boxEncodesUptoRow.holds Tryd.pinned (OpenSpec.upto boxEncodesSpec)

/-- 'ladderbacklaw16.BoxDecodes', WHERE WHAT IT READS IS OF BULK AT MOST 1048576: true; the input reads as it did. -/
def boxDecodesUptoRow : OpenClaim := { program := "ytjikkipdmonndaadoor", sum := "676391ea895ea2759991a6bcad622f743ffae4d17a0e82493b036ca765758287", func := "ladderback/ladderbacklaw16.BoxDecodes", spec := "boxDecodes", unfollowed := true, recurses := true, named := ["ladderback/op.shapes"], apart := false, laid := [("ladderback/op.shapes", laid_ladderback_op_shapes)], narrowed := true }
def BoxDecodesUptoSaid : Prop := boxDecodesUptoRow.holds Tryd.pinned (OpenSpec.upto boxDecodesSpec)

/-- 'ladderbacklaw16.BoxBack', WHERE WHAT IT READS IS OF BULK AT MOST 1048576: true; the input reads as it did. -/
def boxBackUptoRow : OpenClaim := { program := "ytjikkipdmonndaadoor", sum := "676391ea895ea2759991a6bcad622f743ffae4d17a0e82493b036ca765758287", func := "ladderback/ladderbacklaw16.BoxBack", spec := "boxBack", unfollowed := true, recurses := true, named := ["ladderback/op.shapes"], apart := false, laid := [("ladderback/op.shapes", laid_ladderback_op_shapes)], narrowed := true }
def BoxBackUptoSaid : Prop := boxBackUptoRow.holds Tryd.pinned (OpenSpec.upto boxBackSpec)

/-- 'ladderbacklaw16.BoxOne', WHERE WHAT IT READS IS OF BULK AT MOST 1048576: true; the input reads as it did. -/
def boxOneUptoRow : OpenClaim := { program := "ytjikkipdmonndaadoor", sum := "676391ea895ea2759991a6bcad622f743ffae4d17a0e82493b036ca765758287", func := "ladderback/ladderbacklaw16.BoxOne", spec := "boxOne", unfollowed := true, recurses := true, named := ["ladderback/op.shapes"], apart := false, laid := [("ladderback/op.shapes", laid_ladderback_op_shapes)], narrowed := true }
def BoxOneUptoSaid : Prop := boxOneUptoRow.holds Tryd.pinned (OpenSpec.upto boxOneSpec)

end Rows
end Go.Proofs.YtjikkipdmonndaaDoor
