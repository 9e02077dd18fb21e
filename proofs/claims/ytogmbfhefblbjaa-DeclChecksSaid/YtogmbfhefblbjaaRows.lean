/-
  No cell of these rows narrows 'for every input' (looked for: loops, veiled, ifaces, maps, wideKeys, modest, calm, conditions, laid).
  DERIVED. THE GIVEN ROWS OF THIS SEAT. 2 by the template 'for every input the law returns true; each argument reads behind the call as it read before'; 0 by the template 'total and deterministic' (their statements: YtogmbfhefblbjaaTotals.lean).
  GIVEN WITH THE SEED: the statements are not yours to turn. If you find one false, say at which input.
  Laid BY PROGRAM, IN A SANDBOX (cutbox-rows.mjs): the forced cells as the released guide's own fill.sh prints them over the translation e35b03c364d9118e… (all of the seat's roots in one cut). By AI agents, Wed Nov 11 2026. No macro, syntax, notation, axiom, sorry.
-/
import Derived.Test.YtogmbfhefblbjaaChecked
import GoSem.Claim
import GoSem.ClaimJoined
import GoSem.ClaimMapViews
import Derived.JoinedTies
import Derived.KernelRfl
namespace Go.Proofs.Ytogmbfhefblbjaa
/- THE CELL 'sum', in the pinned program and in every row, IS THE sha256 OF THE DUMP (.gsa) THAT YtogmbfhefblbjaaProg.lean LOADS. Nothing in Lean hashes anything: it is a label: what it is worth is what the hold of that sum in a sandbox is worth. -/
noncomputable def Try.pinned : Pinned := { name := "ytogmbfhefblbjaa", sum := "e35b03c364d9118efd8b07e7e2558ab9dd5e04e9df9cc2186204ed8d4a6475b8", checked := Try.checked }
namespace Rows
def none {H : Type} : Left H := { results := [], args := [] }

/-- 'ladderbacklaw17.DeclChecks': WHATEVER THE INPUT: true; the input reads as it did. -/
def declChecksSpec : ChangeSpec := { name := "declChecks", fn := fun _ => fun
  | [d1, d2] => { results := [.lit (.bool true)], args := [d1, d2] }
  | _ => none }
def declChecksRow : OpenClaim := { program := "ytogmbfhefblbjaa", sum := "e35b03c364d9118efd8b07e7e2558ab9dd5e04e9df9cc2186204ed8d4a6475b8", func := "ladderback/ladderbacklaw17.DeclChecks", spec := "declChecks", unfollowed := true, recurses := true, apart := false }
def DeclChecksSaid : Prop := declChecksRow.holds Try.pinned (OpenSpec.ofChange declChecksSpec)

/-- ITS FALSE NEIGHBOUR: 'it returns false'. Refute it at one input. -/
def declChecksWrong : ChangeSpec := { name := "declChecks", fn := fun _ => fun
  | [d1, d2] => { results := [.lit (.bool false)], args := [d1, d2] }
  | _ => none }
def DeclChecksWrongFalsely : Prop := declChecksRow.holds Try.pinned (OpenSpec.ofChange declChecksWrong)

/-- 'ladderbacklaw17.DeclLess': WHATEVER THE INPUT: true; the input reads as it did. -/
def declLessSpec : ChangeSpec := { name := "declLess", fn := fun _ => fun
  | [d] => { results := [.lit (.bool true)], args := [d] }
  | _ => none }
def declLessRow : OpenClaim := { program := "ytogmbfhefblbjaa", sum := "e35b03c364d9118efd8b07e7e2558ab9dd5e04e9df9cc2186204ed8d4a6475b8", func := "ladderback/ladderbacklaw17.DeclLess", spec := "declLess", unfollowed := true, recurses := true, apart := false }
def DeclLessSaid : Prop := declLessRow.holds Try.pinned (OpenSpec.ofChange declLessSpec)

/-- ITS FALSE NEIGHBOUR: 'it returns false'. Refute it at one input. -/
def declLessWrong : ChangeSpec := { name := "declLess", fn := fun _ => fun
  | [d] => { results := [.lit (.bool false)], args := [d] }
  | _ => none }
def DeclLessWrongFalsely : Prop := declLessRow.holds Try.pinned (OpenSpec.ofChange declLessWrong)

/- THE SECOND FORM. 'bulk': how many values and letters a reading holds, each counted each time it is reached (what is shared counts as often as it is met; a slice's spare places count too). A statement '..UptoSaid' is the law's where the arguments, and the package variables that the reading takes, are together of bulk at most 1048576: NARROWER than '..Said'. Prove '..Said' where nothing that the law and all that it calls make is longer than what came in: it says more and counts as full. Else prove '..UptoSaid'. A law counts once. -/
mutual
def uptoBulk {H : Type} : DataW H → Nat
  | .lit (.string bytes) => bytes.length + 1
  | .lit _ => 1
  | .nil => 1
  | .ptr d => uptoBulk d + 1
  | .slice elems spare => uptoBulkAll elems + uptoBulkAll spare + 1
  | .agg parts => uptoBulkAll parts + 1
  | .iface _ d => uptoBulk d + 1
  | .map entries => uptoBulkEntries entries + 1
  | .held _ => 1
def uptoBulkAll {H : Type} : List (DataW H) → Nat
  | [] => 0
  | d :: r => uptoBulk d + uptoBulkAll r
def uptoBulkEntries {H : Type} : List (Lit × DataW H) → Nat
  | [] => 0
  | x :: r => uptoBulkEntry x + uptoBulkEntries r
def uptoBulkEntry {H : Type} : Lit × DataW H → Nat
  | (.string bytes, d) => bytes.length + uptoBulk d + 1
  | (_, d) => uptoBulk d + 1
 end
def uptoSmall : (H : Type) → List (DataW H) → Bool := fun _ ds => decide (uptoBulkAll ds ≤ 1048576)
def OpenSpec.upto (s : _root_.Go.ChangeSpec) : _root_.Go.OpenSpec := { _root_.Go.OpenSpec.ofChange s with cond := some uptoSmall }

/-- 'ladderbacklaw17.DeclChecks', WHERE WHAT IT READS IS OF BULK AT MOST 1048576: true; the input reads as it did. -/
def declChecksUptoRow : OpenClaim := { program := "ytogmbfhefblbjaa", sum := "e35b03c364d9118efd8b07e7e2558ab9dd5e04e9df9cc2186204ed8d4a6475b8", func := "ladderback/ladderbacklaw17.DeclChecks", spec := "declChecks", unfollowed := true, recurses := true, apart := false, narrowed := true }
def DeclChecksUptoSaid : Prop := declChecksUptoRow.holds Try.pinned (OpenSpec.upto declChecksSpec)

/-- 'ladderbacklaw17.DeclLess', WHERE WHAT IT READS IS OF BULK AT MOST 1048576: true; the input reads as it did. -/
def declLessUptoRow : OpenClaim := { program := "ytogmbfhefblbjaa", sum := "e35b03c364d9118efd8b07e7e2558ab9dd5e04e9df9cc2186204ed8d4a6475b8", func := "ladderback/ladderbacklaw17.DeclLess", spec := "declLess", unfollowed := true, recurses := true, apart := false, narrowed := true }
def DeclLessUptoSaid : Prop := declLessUptoRow.holds Try.pinned (OpenSpec.upto declLessSpec)

end Rows
end Go.Proofs.Ytogmbfhefblbjaa
