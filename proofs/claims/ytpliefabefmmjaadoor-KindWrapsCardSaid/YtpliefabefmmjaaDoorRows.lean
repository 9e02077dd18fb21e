/-
  NARROWER THAN 'FOR EVERY INPUT', by the rows' own cells (each row's printed sentence says how): KindTells: laid · KindWraps: laid · KindStays: laid.
  DERIVED. THE GIVEN ROWS OF THIS SEAT. 3 by the template 'for every input the law returns true; each argument reads behind the call as it read before'; 0 by the template 'total and deterministic' (their statements: YtpliefabefmmjaaDoorTotals.lean).
  GIVEN WITH THE SEED: the statements are not yours to turn. If you find one false, say at which input.
  Laid BY PROGRAM, IN A SANDBOX (cutbox-rows.mjs): the forced cells as the released guide's own fill.sh prints them over the translation a6d8377cb9153f32… (all of the seat's roots in one cut). By AI agents, Wed Nov 11 2026. No macro, syntax, notation, axiom, sorry.
-/
import Derived.Test.YtpliefabefmmjaaDoorChecked
import GoSem.Claim
import GoSem.ClaimJoined
import GoSem.ClaimMapViews
import Derived.JoinedTies
import Derived.KernelRfl
namespace Go.Proofs.YtpliefabefmmjaaDoor
/- THE CELL 'sum', in the pinned program and in every row, IS THE sha256 OF THE DUMP (.gsa) THAT YtpliefabefmmjaaDoorProg.lean LOADS. Nothing in Lean hashes anything: it is a label: what it is worth is what the hold of that sum in a sandbox is worth. -/
noncomputable def Tryd.pinned : Pinned := { name := "ytpliefabefmmjaadoor", sum := "a6d8377cb9153f321b930ceef546acb65e81c278e7f05a534c6f1bc9962bc25c", checked := Tryd.checked }
namespace Rows
def none {H : Type} : Left H := { results := [], args := [] }

/- WHAT THE LISTED PACKAGE-LEVEL VARIABLES READ AS WHEN THE CALL BEGINS. Each datum BY PROGRAM (the guide's laid-datum.mjs) off the statement by which the dump's own 'gosem.cut.vars' lays the variable. In a bare row this is a premise. The card (YtpliefabefmmjaaDoorCards.lean) ties it to the program's text. -/
def laid_ladderback_kind_names {H : Type} : DataW H := .agg [.lit (.string [66, 79, 79, 76]), .lit (.string [73, 78, 84]), .lit (.string [68, 73, 78, 84]), .lit (.string [87, 79, 82, 68]), .lit (.string [68, 87, 79, 82, 68]), .lit (.string [84, 73, 77, 69])]
def laid_ladderback_kind_sizes {H : Type} : DataW H := .agg [.lit (.int .i64 1), .lit (.int .i64 16), .lit (.int .i64 32), .lit (.int .i64 16), .lit (.int .i64 32), .lit (.int .i64 64)]

/-- 'ladderbacklaw01.KindTells': WHATEVER THE INPUT: true; the input reads as it did. -/
def kindTellsSpec : ChangeSpec := { name := "kindTells", fn := fun _ => fun
  | [d1, d2] => { results := [.lit (.bool true)], args := [d1, d2] }
  | _ => none }
def kindTellsRow : OpenClaim := { program := "ytpliefabefmmjaadoor", sum := "a6d8377cb9153f321b930ceef546acb65e81c278e7f05a534c6f1bc9962bc25c", func := "ladderback/ladderbacklaw01.KindTells", spec := "kindTells", named := ["ladderback/kind.names", "ladderback/kind.sizes"], apart := false, laid := [("ladderback/kind.names", laid_ladderback_kind_names), ("ladderback/kind.sizes", laid_ladderback_kind_sizes)] }
def KindTellsSaid : Prop := kindTellsRow.holds Tryd.pinned (OpenSpec.ofChange kindTellsSpec)

/-- ITS FALSE NEIGHBOUR: 'it returns false'. Refute it at one input. -/
def kindTellsWrong : ChangeSpec := { name := "kindTells", fn := fun _ => fun
  | [d1, d2] => { results := [.lit (.bool false)], args := [d1, d2] }
  | _ => none }
def KindTellsWrongFalsely : Prop := kindTellsRow.holds Tryd.pinned (OpenSpec.ofChange kindTellsWrong)

/-- 'ladderbacklaw01.KindWraps': WHATEVER THE INPUT: true; the input reads as it did. -/
def kindWrapsSpec : ChangeSpec := { name := "kindWraps", fn := fun _ => fun
  | [d1, d2] => { results := [.lit (.bool true)], args := [d1, d2] }
  | _ => none }
def kindWrapsRow : OpenClaim := { program := "ytpliefabefmmjaadoor", sum := "a6d8377cb9153f321b930ceef546acb65e81c278e7f05a534c6f1bc9962bc25c", func := "ladderback/ladderbacklaw01.KindWraps", spec := "kindWraps", named := ["ladderback/kind.names"], apart := false, laid := [("ladderback/kind.names", laid_ladderback_kind_names)] }
def KindWrapsSaid : Prop := kindWrapsRow.holds Tryd.pinned (OpenSpec.ofChange kindWrapsSpec)

/-- ITS FALSE NEIGHBOUR: 'it returns false'. Refute it at one input. -/
def kindWrapsWrong : ChangeSpec := { name := "kindWraps", fn := fun _ => fun
  | [d1, d2] => { results := [.lit (.bool false)], args := [d1, d2] }
  | _ => none }
def KindWrapsWrongFalsely : Prop := kindWrapsRow.holds Tryd.pinned (OpenSpec.ofChange kindWrapsWrong)

/-- 'ladderbacklaw01.KindStays': WHATEVER THE INPUT: true; the input reads as it did. -/
def kindStaysSpec : ChangeSpec := { name := "kindStays", fn := fun _ => fun
  | [d1, d2, d3] => { results := [.lit (.bool true)], args := [d1, d2, d3] }
  | _ => none }
def kindStaysRow : OpenClaim := { program := "ytpliefabefmmjaadoor", sum := "a6d8377cb9153f321b930ceef546acb65e81c278e7f05a534c6f1bc9962bc25c", func := "ladderback/ladderbacklaw01.KindStays", spec := "kindStays", named := ["ladderback/kind.names"], apart := false, laid := [("ladderback/kind.names", laid_ladderback_kind_names)] }
def KindStaysSaid : Prop := kindStaysRow.holds Tryd.pinned (OpenSpec.ofChange kindStaysSpec)

/-- ITS FALSE NEIGHBOUR: 'it returns false'. Refute it at one input. -/
def kindStaysWrong : ChangeSpec := { name := "kindStays", fn := fun _ => fun
  | [d1, d2, d3] => { results := [.lit (.bool false)], args := [d1, d2, d3] }
  | _ => none }
def KindStaysWrongFalsely : Prop := kindStaysRow.holds Tryd.pinned (OpenSpec.ofChange kindStaysWrong)

/- THE SECOND FORM. 'bulk': how many values and letters a reading holds, each counted each time it is reached (what is shared counts as often as it is met; a slice's spare places count too). A statement '..UptoSaid' is the law's where the arguments, and the package variables that the reading takes, are together of bulk at most 1048576: NARROWER than '..Said'. Prove '..Said' where nothing that the law and all that it calls make is longer than what came in: it says more and counts as full. Else prove '..UptoSaid'. A law counts once. -/
mutual
def uptoBulk {H : Type} : DataW H → Nat
  | .lit (.string bytes) => bytes.length + 1
  | .lit _ => 1
  | .nil => 1
  | .ptr d => uptoBulk d + 1
  | .slice elems spare => uptoBulkAll elems + uptoBulkAll spare + 1
  | .agg parts => uptoBulkAll parts + 1
  | .iface _ d => uptoBulk d + 1
  | .map entries => uptoBulkEntries entries + 1
  | .held _ => 1
def uptoBulkAll {H : Type} : List (DataW H) → Nat
  | [] => 0
  | d :: r => uptoBulk d + uptoBulkAll r
def uptoBulkEntries {H : Type} : List (Lit × DataW H) → Nat
  | [] => 0
  | x :: r => uptoBulkEntry x + uptoBulkEntries r
def uptoBulkEntry {H : Type} : Lit × DataW H → Nat
  | (.string bytes, d) => bytes.length + uptoBulk d + 1
  | (_, d) => uptoBulk d + 1
 end
def uptoSmall : (H : Type) → List (DataW H) → Bool := fun _ ds => decide (uptoBulkAll ds ≤ 1048576)
def OpenSpec.upto (s : _root_.Go.ChangeSpec) : _root_.Go.OpenSpec := { _root_.Go.OpenSpec.ofChange s with cond := some uptoSmall }

/-- 'ladderbacklaw01.KindTells', WHERE WHAT IT READS IS OF BULK AT MOST 1048576: true; the input reads as it did. -/
def kindTellsUptoRow : OpenClaim := { program := "ytpliefabefmmjaadoor", sum := "a6d8377cb9153f321b930ceef546acb65e81c278e7f05a534c6f1bc9962bc25c", func := "ladderback/ladderbacklaw01.KindTells", spec := "kindTells", named := ["ladderback/kind.names", "ladderback/kind.sizes"], apart := false, laid := [("ladderback/kind.names", laid_ladderback_kind_names), ("ladderback/kind.sizes", laid_ladderback_kind_sizes)], narrowed := true }
def KindTellsUptoSaid : Prop := kindTellsUptoRow.holds Tryd.pinned (OpenSpec.upto kindTellsSpec)

/-- 'ladderbacklaw01.KindWraps', WHERE WHAT IT READS IS OF BULK AT MOST 1048576: true; the input reads as it did. -/
def kindWrapsUptoRow : OpenClaim := { program := "ytpliefabefmmjaadoor", sum := "a6d8377cb9153f321b930ceef546acb65e81c278e7f05a534c6f1bc9962bc25c", func := "ladderback/ladderbacklaw01.KindWraps", spec := "kindWraps", named := ["ladderback/kind.names"], apart := false, laid := [("ladderback/kind.names", laid_ladderback_kind_names)], narrowed := true }
def KindWrapsUptoSaid : Prop := kindWrapsUptoRow.holds Tryd.pinned (OpenSpec.upto kindWrapsSpec)

/-- 'ladderbacklaw01.KindStays', WHERE WHAT IT READS IS OF BULK AT MOST 1048576: true; the input reads as it did. -/
def kindStaysUptoRow : OpenClaim := { program := "ytpliefabefmmjaadoor", sum := "a6d8377cb9153f321b930ceef546acb65e81c278e7f05a534c6f1bc9962bc25c", func := "ladderback/ladderbacklaw01.KindStays", spec := "kindStays", named := ["ladderback/kind.names"], apart := false, laid := [("ladderback/kind.names", laid_ladderback_kind_names)], narrowed := true }
def KindStaysUptoSaid : Prop := kindStaysUptoRow.holds Tryd.pinned (OpenSpec.upto kindStaysSpec)

end Rows
end Go.Proofs.YtpliefabefmmjaaDoor
