/-
  NARROWER THAN 'FOR EVERY INPUT', by the rows' own cells (each row's printed sentence says how): NnfTells: loops, laid · NetTells: loops, laid · NetBack: loops, laid.
  DERIVED. THE GIVEN ROWS OF THIS SEAT. 3 by the template 'for every input the law returns true; each argument reads behind the call as it read before'; 0 by the template 'total and deterministic' (their statements: YtknbomikiakpmaaDoorTotals.lean).
  GIVEN WITH THE SEED: the statements are not yours to turn. If you find one false, say at which input.
  Laid BY PROGRAM, IN A SANDBOX (cutbox-rows.mjs): the forced cells as the released guide's own fill.sh prints them over the translation 58f878629d1142b5… (all of the seat's roots in one cut). By AI agents, Wed Nov 11 2026. No macro, syntax, notation, axiom, sorry.
-/
import Derived.Test.YtknbomikiakpmaaDoorChecked
import GoSem.Claim
import GoSem.ClaimJoined
import GoSem.ClaimMapViews
import Derived.JoinedTies
import Derived.KernelRfl
namespace Go.Proofs.YtknbomikiakpmaaDoor
/- THE CELL 'sum', in the pinned program and in every row, IS THE sha256 OF THE DUMP (.gsa) THAT YtknbomikiakpmaaDoorProg.lean LOADS. Nothing in Lean hashes anything: it is a label: what it is worth is what the hold of that sum in a sandbox is worth. -/
noncomputable def Tryd.pinned : Pinned := { name := "ytknbomikiakpmaadoor", sum := "58f878629d1142b519c321daf729941566a5b6bb9f5b50231900e1b2aa7756da", checked := Tryd.checked }
namespace Rows
def none {H : Type} : Left H := { results := [], args := [] }

/- WHAT THE LISTED PACKAGE-LEVEL VARIABLES READ AS WHEN THE CALL BEGINS. Each datum BY PROGRAM (the guide's laid-datum.mjs) off the statement by which the dump's own 'gosem.cut.vars' lays the variable. In a bare row this is a premise. The card (YtknbomikiakpmaaDoorCards.lean) ties it to the program's text. -/
def laid_ladderback_alu_goes {H : Type} : DataW H := .agg [.lit (.int .i64 76), .lit (.int .i64 76), .lit (.int .i64 12), .lit (.int .i64 12), .lit (.int .i64 12), .lit (.int .i64 76), .lit (.int .i64 50), .lit (.int .i64 50), .lit (.int .i64 50), .lit (.int .i64 50), .lit (.int .i64 48), .lit (.int .i64 48), .lit (.int .i64 126), .lit (.int .i64 126), .lit (.int .i64 124), .lit (.int .i64 124), .lit (.int .i64 124), .lit (.int .i64 124)]
def laid_ladderback_block_shapes {H : Type} : DataW H := .agg [.agg [.lit (.string [84, 79, 78]), .lit (.int .i64 4), .lit (.int .i64 2)], .agg [.lit (.string [84, 79, 70]), .lit (.int .i64 4), .lit (.int .i64 2)], .agg [.lit (.string [84, 80]), .lit (.int .i64 4), .lit (.int .i64 2)], .agg [.lit (.string [67, 84, 85]), .lit (.int .i64 5), .lit (.int .i64 3)], .agg [.lit (.string [67, 84, 68]), .lit (.int .i64 5), .lit (.int .i64 3)], .agg [.lit (.string [67, 84, 85, 68]), .lit (.int .i64 8), .lit (.int .i64 5)], .agg [.lit (.string [82, 95, 84, 82, 73, 71]), .lit (.int .i64 2), .lit (.int .i64 1)], .agg [.lit (.string [70, 95, 84, 82, 73, 71]), .lit (.int .i64 2), .lit (.int .i64 1)]]
def laid_ladderback_block_rows {H : Type} : DataW H := .agg [.agg [.agg [.lit (.string [73, 78]), .lit (.int .i64 1)], .agg [.lit (.string [80, 84]), .lit (.int .i64 6)], .agg [.lit (.string [81]), .lit (.int .i64 1)], .agg [.lit (.string [69, 84]), .lit (.int .i64 6)], .agg [.lit (.string []), .lit (.int .i64 0)], .agg [.lit (.string []), .lit (.int .i64 0)], .agg [.lit (.string []), .lit (.int .i64 0)], .agg [.lit (.string []), .lit (.int .i64 0)]], .agg [.agg [.lit (.string [67, 85]), .lit (.int .i64 1)], .agg [.lit (.string [82]), .lit (.int .i64 1)], .agg [.lit (.string [80, 86]), .lit (.int .i64 2)], .agg [.lit (.string [81]), .lit (.int .i64 1)], .agg [.lit (.string [67, 86]), .lit (.int .i64 2)], .agg [.lit (.string []), .lit (.int .i64 0)], .agg [.lit (.string []), .lit (.int .i64 0)], .agg [.lit (.string []), .lit (.int .i64 0)]], .agg [.agg [.lit (.string [67, 68]), .lit (.int .i64 1)], .agg [.lit (.string [76, 68]), .lit (.int .i64 1)], .agg [.lit (.string [80, 86]), .lit (.int .i64 2)], .agg [.lit (.string [81]), .lit (.int .i64 1)], .agg [.lit (.string [67, 86]), .lit (.int .i64 2)], .agg [.lit (.string []), .lit (.int .i64 0)], .agg [.lit (.string []), .lit (.int .i64 0)], .agg [.lit (.string []), .lit (.int .i64 0)]], .agg [.agg [.lit (.string [67, 85]), .lit (.int .i64 1)], .agg [.lit (.string [67, 68]), .lit (.int .i64 1)], .agg [.lit (.string [82]), .lit (.int .i64 1)], .agg [.lit (.string [76, 68]), .lit (.int .i64 1)], .agg [.lit (.string [80, 86]), .lit (.int .i64 2)], .agg [.lit (.string [81, 85]), .lit (.int .i64 1)], .agg [.lit (.string [81, 68]), .lit (.int .i64 1)], .agg [.lit (.string [67, 86]), .lit (.int .i64 2)]], .agg [.agg [.lit (.string [67, 76, 75]), .lit (.int .i64 1)], .agg [.lit (.string [81]), .lit (.int .i64 1)], .agg [.lit (.string []), .lit (.int .i64 0)], .agg [.lit (.string []), .lit (.int .i64 0)], .agg [.lit (.string []), .lit (.int .i64 0)], .agg [.lit (.string []), .lit (.int .i64 0)], .agg [.lit (.string []), .lit (.int .i64 0)], .agg [.lit (.string []), .lit (.int .i64 0)]]]

/-- 'ladderbacklaw43.NnfTells': WHATEVER THE INPUT: true; the input reads as it did. -/
def nnfTellsSpec : ChangeSpec := { name := "nnfTells", fn := fun _ => fun
  | [d1, d2] => { results := [.lit (.bool true)], args := [d1, d2] }
  | _ => none }
def nnfTellsRow : OpenClaim := { program := "ytknbomikiakpmaadoor", sum := "58f878629d1142b519c321daf729941566a5b6bb9f5b50231900e1b2aa7756da", func := "ladderback/ladderbacklaw43.NnfTells", spec := "nnfTells", unfollowed := true, recurses := true, named := ["ladderback/block.rows", "ladderback/block.shapes", "ladderback/alu.goes"], loops := true, apart := false, laid := [("ladderback/alu.goes", laid_ladderback_alu_goes), ("ladderback/block.shapes", laid_ladderback_block_shapes), ("ladderback/block.rows", laid_ladderback_block_rows)] }
def NnfTellsSaid : Prop := nnfTellsRow.holds Tryd.pinned (OpenSpec.ofChange nnfTellsSpec)

/-- ITS FALSE NEIGHBOUR: 'it returns false'. Refute it at one input. -/
def nnfTellsWrong : ChangeSpec := { name := "nnfTells", fn := fun _ => fun
  | [d1, d2] => { results := [.lit (.bool false)], args := [d1, d2] }
  | _ => none }
def NnfTellsWrongFalsely : Prop := nnfTellsRow.holds Tryd.pinned (OpenSpec.ofChange nnfTellsWrong)

/-- 'ladderbacklaw44.NetTells': WHATEVER THE INPUT: true; the input reads as it did. -/
def netTellsSpec : ChangeSpec := { name := "netTells", fn := fun _ => fun
  | [d1, d2, d3] => { results := [.lit (.bool true)], args := [d1, d2, d3] }
  | _ => none }
def netTellsRow : OpenClaim := { program := "ytknbomikiakpmaadoor", sum := "58f878629d1142b519c321daf729941566a5b6bb9f5b50231900e1b2aa7756da", func := "ladderback/ladderbacklaw44.NetTells", spec := "netTells", unfollowed := true, recurses := true, named := ["ladderback/block.rows", "ladderback/block.shapes", "ladderback/alu.goes"], loops := true, apart := false, laid := [("ladderback/alu.goes", laid_ladderback_alu_goes), ("ladderback/block.shapes", laid_ladderback_block_shapes), ("ladderback/block.rows", laid_ladderback_block_rows)] }
def NetTellsSaid : Prop := netTellsRow.holds Tryd.pinned (OpenSpec.ofChange netTellsSpec)

/-- ITS FALSE NEIGHBOUR: 'it returns false'. Refute it at one input. -/
def netTellsWrong : ChangeSpec := { name := "netTells", fn := fun _ => fun
  | [d1, d2, d3] => { results := [.lit (.bool false)], args := [d1, d2, d3] }
  | _ => none }
def NetTellsWrongFalsely : Prop := netTellsRow.holds Tryd.pinned (OpenSpec.ofChange netTellsWrong)

/-- 'ladderbacklaw44.NetBack': WHATEVER THE INPUT: true; the input reads as it did. -/
def netBackSpec : ChangeSpec := { name := "netBack", fn := fun _ => fun
  | [d1, d2] => { results := [.lit (.bool true)], args := [d1, d2] }
  | _ => none }
def netBackRow : OpenClaim := { program := "ytknbomikiakpmaadoor", sum := "58f878629d1142b519c321daf729941566a5b6bb9f5b50231900e1b2aa7756da", func := "ladderback/ladderbacklaw44.NetBack", spec := "netBack", unfollowed := true, recurses := true, named := ["ladderback/block.rows", "ladderback/block.shapes", "ladderback/alu.goes"], loops := true, apart := false, laid := [("ladderback/alu.goes", laid_ladderback_alu_goes), ("ladderback/block.shapes", laid_ladderback_block_shapes), ("ladderback/block.rows", laid_ladderback_block_rows)] }
def NetBackSaid : Prop := netBackRow.holds Tryd.pinned (OpenSpec.ofChange netBackSpec)

/-- ITS FALSE NEIGHBOUR: 'it returns false'. Refute it at one input. -/
def netBackWrong : ChangeSpec := { name := "netBack", fn := fun _ => fun
  | [d1, d2] => { results := [.lit (.bool false)], args := [d1, d2] }
  | _ => none }
def NetBackWrongFalsely : Prop := netBackRow.holds Tryd.pinned (OpenSpec.ofChange netBackWrong)

/- THE SECOND FORM. 'bulk': how many values and letters a reading holds, each counted each time it is reached (what is shared counts as often as it is met; a slice's spare places count too). A statement '..UptoSaid' is the law's where the arguments, and the package variables that the reading takes, are together of bulk at most 1048576: NARROWER than '..Said'. Prove '..Said' where nothing that the law and all that it calls make is longer than what came in: it says more and counts as full. Else prove '..UptoSaid'. A law counts once. -/
mutual
def uptoBulk {H : Type} : DataW H → Nat
  | .lit (.string bytes) => bytes.length + 1
  | .lit _ => 1
  | .nil => 1
  | .ptr d => uptoBulk d + 1
  | .slice elems spare => uptoBulkAll elems + uptoBulkAll spare + 1
  | .agg parts => uptoBulkAll parts + 1
  | .iface _ d => uptoBulk d + 1
  | .map entries => uptoBulkEntries entries + 1
  | .held _ => 1
def uptoBulkAll {H : Type} : List (DataW H) → Nat
  | [] => 0
  | d :: r => uptoBulk d + uptoBulkAll r
def uptoBulkEntries {H : Type} : List (Lit × DataW H) → Nat
  | [] => 0
  | x :: r => uptoBulkEntry x + uptoBulkEntries r
def uptoBulkEntry {H : Type} : Lit × DataW H → Nat
  | (.string bytes, d) => bytes.length + uptoBulk d + 1
  | (_, d) => uptoBulk d + 1
 end
def uptoSmall : (H : Type) → List (DataW H) → Bool := fun _ ds => decide (uptoBulkAll ds ≤ 1048576)
def OpenSpec.upto (s : _root_.Go.ChangeSpec) : _root_.Go.OpenSpec := { _root_.Go.OpenSpec.ofChange s with cond := some uptoSmall }

/-- 'ladderbacklaw43.NnfTells', WHERE WHAT IT READS IS OF BULK AT MOST 1048576: true; the input reads as it did. -/
def nnfTellsUptoRow : OpenClaim := { program := "ytknbomikiakpmaadoor", sum := "58f878629d1142b519c321daf729941566a5b6bb9f5b50231900e1b2aa7756da", func := "ladderback/ladderbacklaw43.NnfTells", spec := "nnfTells", unfollowed := true, recurses := true, named := ["ladderback/block.rows", "ladderback/block.shapes", "ladderback/alu.goes"], loops := true, apart := false, laid := [("ladderback/alu.goes", laid_ladderback_alu_goes), ("ladderback/block.shapes", laid_ladderback_block_shapes), ("ladderback/block.rows", laid_ladderback_block_rows)], narrowed := true }
def NnfTellsUptoSaid : Prop := nnfTellsUptoRow.holds Tryd.pinned (OpenSpec.upto nnfTellsSpec)

/-- 'ladderbacklaw44.NetTells', WHERE WHAT IT READS IS OF BULK AT MOST 1048576: true; the input reads as it did. -/
def netTellsUptoRow : OpenClaim := { program := "ytknbomikiakpmaadoor", sum := "58f878629d1142b519c321daf729941566a5b6bb9f5b50231900e1b2aa7756da", func := "ladderback/ladderbacklaw44.NetTells", spec := "netTells", unfollowed := true, recurses := true, named := ["ladderback/block.rows", "ladderback/block.shapes", "ladderback/alu.goes"], loops := true, apart := false, laid := [("ladderback/alu.goes", laid_ladderback_alu_goes), ("ladderback/block.shapes", laid_ladderback_block_shapes), ("ladderback/block.rows", laid_ladderback_block_rows)], narrowed := true }
def NetTellsUptoSaid : Prop := netTellsUptoRow.holds Tryd.pinned (OpenSpec.upto netTellsSpec)

/-- 'ladderbacklaw44.NetBack', WHERE WHAT IT READS IS OF BULK AT MOST 1048576: true; the input reads as it did. -/
def netBackUptoRow : OpenClaim := { program := "ytknbomikiakpmaadoor", sum := "58f878629d1142b519c321daf729941566a5b6bb9f5b50231900e1b2aa7756da", func := "ladderback/ladderbacklaw44.NetBack", spec := "netBack", unfollowed := true, recurses := true, named := ["ladderback/block.rows", "ladderback/block.shapes", "ladderback/alu.goes"], loops := true, apart := false, laid := [("ladderback/alu.goes", laid_ladderback_alu_goes), ("ladderback/block.shapes", laid_ladderback_block_shapes), ("ladderback/block.rows", laid_ladderback_block_rows)], narrowed := true }
def NetBackUptoSaid : Prop := netBackUptoRow.holds Tryd.pinned (OpenSpec.upto netBackSpec)

end Rows
end Go.Proofs.YtknbomikiakpmaaDoor
