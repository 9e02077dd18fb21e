/-
  NARROWER THAN 'FOR EVERY INPUT', by the rows' own cells (each row's printed sentence says how): RefsChecks: laid · RefsMore: laid.
  DERIVED. THE GIVEN ROWS OF THIS SEAT. 2 by the template 'for every input the law returns true; each argument reads behind the call as it read before'; 0 by the template 'total and deterministic' (their statements: YtjlpmepnapaonaaDoorTotals.lean).
  GIVEN WITH THE SEED: the statements are not yours to turn. If you find one false, say at which input.
  Laid BY PROGRAM, IN A SANDBOX (cutbox-rows.mjs): the forced cells as the released guide's own fill.sh prints them over the translation 21bd3d7b82e71a1e… (all of the seat's roots in one cut). By AI agents, Wed Nov 11 2026. No macro, syntax, notation, axiom, sorry.
-/
import Derived.Test.YtjlpmepnapaonaaDoorChecked
import GoSem.Claim
import GoSem.ClaimJoined
import GoSem.ClaimMapViews
import Derived.JoinedTies
import Derived.KernelRfl
namespace Go.Proofs.YtjlpmepnapaonaaDoor
/- THE CELL 'sum', in the pinned program and in every row, IS THE sha256 OF THE DUMP (.gsa) THAT YtjlpmepnapaonaaDoorProg.lean LOADS. Nothing in Lean hashes anything: it is a label: what it is worth is what the hold of that sum in a sandbox is worth. -/
noncomputable def Tryd.pinned : Pinned := { name := "ytjlpmepnapaonaadoor", sum := "21bd3d7b82e71a1e654149011cc5d1db0ae84952ca5108fc8091f2f554dbdab4", checked := Tryd.checked }
namespace Rows
def none {H : Type} : Left H := { results := [], args := [] }

/- WHAT THE LISTED PACKAGE-LEVEL VARIABLES READ AS WHEN THE CALL BEGINS. Each datum BY PROGRAM (the guide's laid-datum.mjs) off the statement by which the dump's own 'gosem.cut.vars' lays the variable. In a bare row this is a premise. The card (YtjlpmepnapaonaaDoorCards.lean) ties it to the program's text. -/
def laid_ladderback_alu_goes {H : Type} : DataW H := .agg [.lit (.int .i64 76), .lit (.int .i64 76), .lit (.int .i64 12), .lit (.int .i64 12), .lit (.int .i64 12), .lit (.int .i64 76), .lit (.int .i64 50), .lit (.int .i64 50), .lit (.int .i64 50), .lit (.int .i64 50), .lit (.int .i64 48), .lit (.int .i64 48), .lit (.int .i64 126), .lit (.int .i64 126), .lit (.int .i64 124), .lit (.int .i64 124), .lit (.int .i64 124), .lit (.int .i64 124)]
def laid_ladderback_block_shapes {H : Type} : DataW H := .agg [.agg [.lit (.string [84, 79, 78]), .lit (.int .i64 4), .lit (.int .i64 2)], .agg [.lit (.string [84, 79, 70]), .lit (.int .i64 4), .lit (.int .i64 2)], .agg [.lit (.string [84, 80]), .lit (.int .i64 4), .lit (.int .i64 2)], .agg [.lit (.string [67, 84, 85]), .lit (.int .i64 5), .lit (.int .i64 3)], .agg [.lit (.string [67, 84, 68]), .lit (.int .i64 5), .lit (.int .i64 3)], .agg [.lit (.string [67, 84, 85, 68]), .lit (.int .i64 8), .lit (.int .i64 5)], .agg [.lit (.string [82, 95, 84, 82, 73, 71]), .lit (.int .i64 2), .lit (.int .i64 1)], .agg [.lit (.string [70, 95, 84, 82, 73, 71]), .lit (.int .i64 2), .lit (.int .i64 1)]]
def laid_ladderback_op_shapes {H : Type} : DataW H := .agg [.agg [.lit (.int .i64 10), .lit (.int .i64 10)], .agg [.lit (.int .i64 1), .lit (.int .i64 0)], .agg [.lit (.int .i64 2), .lit (.int .i64 0)], .agg [.lit (.int .i64 2), .lit (.int .i64 0)], .agg [.lit (.int .i64 3), .lit (.int .i64 0)], .agg [.lit (.int .i64 3), .lit (.int .i64 0)], .agg [.lit (.int .i64 2), .lit (.int .i64 0)], .agg [.lit (.int .i64 2), .lit (.int .i64 0)], .agg [.lit (.int .i64 0), .lit (.int .i64 0)], .agg [.lit (.int .i64 0), .lit (.int .i64 0)], .agg [.lit (.int .i64 0), .lit (.int .i64 0)], .agg [.lit (.int .i64 0), .lit (.int .i64 0)], .agg [.lit (.int .i64 0), .lit (.int .i64 0)], .agg [.lit (.int .i64 0), .lit (.int .i64 0)], .agg [.lit (.int .i64 0), .lit (.int .i64 0)], .agg [.lit (.int .i64 0), .lit (.int .i64 0)], .agg [.lit (.int .i64 0), .lit (.int .i64 0)], .agg [.lit (.int .i64 0), .lit (.int .i64 0)], .agg [.lit (.int .i64 0), .lit (.int .i64 0)], .agg [.lit (.int .i64 0), .lit (.int .i64 0)], .agg [.lit (.int .i64 0), .lit (.int .i64 0)], .agg [.lit (.int .i64 0), .lit (.int .i64 0)], .agg [.lit (.int .i64 0), .lit (.int .i64 0)], .agg [.lit (.int .i64 0), .lit (.int .i64 0)], .agg [.lit (.int .i64 0), .lit (.int .i64 0)], .agg [.lit (.int .i64 0), .lit (.int .i64 0)], .agg [.lit (.int .i64 4), .lit (.int .i64 4)], .agg [.lit (.int .i64 0), .lit (.int .i64 0)], .agg [.lit (.int .i64 0), .lit (.int .i64 0)], .agg [.lit (.int .i64 0), .lit (.int .i64 0)], .agg [.lit (.int .i64 5), .lit (.int .i64 10)], .agg [.lit (.int .i64 5), .lit (.int .i64 10)], .agg [.lit (.int .i64 6), .lit (.int .i64 10)], .agg [.lit (.int .i64 7), .lit (.int .i64 0)], .agg [.lit (.int .i64 0), .lit (.int .i64 0)], .agg [.lit (.int .i64 8), .lit (.int .i64 9)], .agg [.lit (.int .i64 8), .lit (.int .i64 0)], .agg [.lit (.int .i64 8), .lit (.int .i64 9)]]

/-- 'ladderbacklaw18.RefsChecks': WHATEVER THE INPUT: true; the input reads as it did. -/
def refsChecksSpec : ChangeSpec := { name := "refsChecks", fn := fun _ => fun
  | [d1, d2] => { results := [.lit (.bool true)], args := [d1, d2] }
  | _ => none }
def refsChecksRow : OpenClaim := { program := "ytjlpmepnapaonaadoor", sum := "21bd3d7b82e71a1e654149011cc5d1db0ae84952ca5108fc8091f2f554dbdab4", func := "ladderback/ladderbacklaw18.RefsChecks", spec := "refsChecks", named := ["ladderback/op.shapes", "ladderback/alu.goes", "ladderback/block.shapes"], apart := false, laid := [("ladderback/alu.goes", laid_ladderback_alu_goes), ("ladderback/block.shapes", laid_ladderback_block_shapes), ("ladderback/op.shapes", laid_ladderback_op_shapes)] }
def RefsChecksSaid : Prop := refsChecksRow.holds Tryd.pinned (OpenSpec.ofChange refsChecksSpec)

/-- ITS FALSE NEIGHBOUR: 'it returns false'. Refute it at one input. -/
def refsChecksWrong : ChangeSpec := { name := "refsChecks", fn := fun _ => fun
  | [d1, d2] => { results := [.lit (.bool false)], args := [d1, d2] }
  | _ => none }
def RefsChecksWrongFalsely : Prop := refsChecksRow.holds Tryd.pinned (OpenSpec.ofChange refsChecksWrong)

/-- 'ladderbacklaw18.RefsMore': WHATEVER THE INPUT: true; the input reads as it did. -/
def refsMoreSpec : ChangeSpec := { name := "refsMore", fn := fun _ => fun
  | [d1, d2, d3] => { results := [.lit (.bool true)], args := [d1, d2, d3] }
  | _ => none }
def refsMoreRow : OpenClaim := { program := "ytjlpmepnapaonaadoor", sum := "21bd3d7b82e71a1e654149011cc5d1db0ae84952ca5108fc8091f2f554dbdab4", func := "ladderback/ladderbacklaw18.RefsMore", spec := "refsMore", named := ["ladderback/op.shapes", "ladderback/alu.goes", "ladderback/block.shapes"], apart := false, laid := [("ladderback/alu.goes", laid_ladderback_alu_goes), ("ladderback/block.shapes", laid_ladderback_block_shapes), ("ladderback/op.shapes", laid_ladderback_op_shapes)] }
def RefsMoreSaid : Prop := refsMoreRow.holds Tryd.pinned (OpenSpec.ofChange refsMoreSpec)

/-- ITS FALSE NEIGHBOUR: 'it returns false'. Refute it at one input. -/
def refsMoreWrong : ChangeSpec := { name := "refsMore", fn := fun _ => fun
  | [d1, d2, d3] => { results := [.lit (.bool false)], args := [d1, d2, d3] }
  | _ => none }
def RefsMoreWrongFalsely : Prop := refsMoreRow.holds Tryd.pinned (OpenSpec.ofChange refsMoreWrong)

/- THE SECOND FORM. 'bulk': how many values and letters a reading holds, each counted each time it is reached (what is shared counts as often as it is met; a slice's spare places count too). A statement '..UptoSaid' is the law's where the arguments, and the package variables that the reading takes, are together of bulk at most 1048576: NARROWER than '..Said'. Prove '..Said' where nothing that the law and all that it calls make is longer than what came in: it says more and counts as full. Else prove '..UptoSaid'. A law counts once. -/
mutual
def uptoBulk {H : Type} : DataW H → Nat
  | .lit (.string bytes) => bytes.length + 1
  | .lit _ => 1
  | .nil => 1
  | .ptr d => uptoBulk d + 1
  | .slice elems spare => uptoBulkAll elems + uptoBulkAll spare + 1
  | .agg parts => uptoBulkAll parts + 1
  | .iface _ d => uptoBulk d + 1
  | .map entries => uptoBulkEntries entries + 1
  | .held _ => 1
def uptoBulkAll {H : Type} : List (DataW H) → Nat
  | [] => 0
  | d :: r => uptoBulk d + uptoBulkAll r
def uptoBulkEntries {H : Type} : List (Lit × DataW H) → Nat
  | [] => 0
  | x :: r => uptoBulkEntry x + uptoBulkEntries r
def uptoBulkEntry {H : Type} : Lit × DataW H → Nat
  | (.string bytes, d) => bytes.length + uptoBulk d + 1
  | (_, d) => uptoBulk d + 1
 end
def uptoSmall : (H : Type) → List (DataW H) → Bool := fun _ ds => decide (uptoBulkAll ds ≤ 1048576)
def OpenSpec.upto (s : _root_.Go.ChangeSpec) : _root_.Go.OpenSpec := { _root_.Go.OpenSpec.ofChange s with cond := some uptoSmall }

/-- 'ladderbacklaw18.RefsChecks', WHERE WHAT IT READS IS OF BULK AT MOST 1048576: true; the input reads as it did. -/
def refsChecksUptoRow : OpenClaim := { program := "ytjlpmepnapaonaadoor", sum := "21bd3d7b82e71a1e654149011cc5d1db0ae84952ca5108fc8091f2f554dbdab4", func := "ladderback/ladderbacklaw18.RefsChecks", spec := "refsChecks", named := ["ladderback/op.shapes", "ladderback/alu.goes", "ladderback/block.shapes"], apart := false, laid := [("ladderback/alu.goes", laid_ladderback_alu_goes), ("ladderback/block.shapes", laid_ladderback_block_shapes), ("ladderback/op.shapes", laid_ladderback_op_shapes)], narrowed := true }
def RefsChecksUptoSaid : Prop := refsChecksUptoRow.holds Tryd.pinned (OpenSpec.upto refsChecksSpec)

/-- 'ladderbacklaw18.RefsMore', WHERE WHAT IT READS IS OF BULK AT MOST 1048576: true; the input reads as it did. -/
def refsMoreUptoRow : OpenClaim := { program := "ytjlpmepnapaonaadoor", sum := "21bd3d7b82e71a1e654149011cc5d1db0ae84952ca5108fc8091f2f554dbdab4", func := "ladderback/ladderbacklaw18.RefsMore", spec := "refsMore", named := ["ladderback/op.shapes", "ladderback/alu.goes", "ladderback/block.shapes"], apart := false, laid := [("ladderback/alu.goes", laid_ladderback_alu_goes), ("ladderback/block.shapes", laid_ladderback_block_shapes), ("ladderback/op.shapes", laid_ladderback_op_shapes)], narrowed := true }
def RefsMoreUptoSaid : Prop := refsMoreUptoRow.holds Tryd.pinned (OpenSpec.upto refsMoreSpec)

end Rows
end Go.Proofs.YtjlpmepnapaonaaDoor
