/-
  No cell of these rows narrows 'for every input' (looked for: loops, veiled, ifaces, maps, wideKeys, modest, calm, conditions, laid).
  DERIVED. THE GIVEN ROWS OF THIS SEAT. 3 by the template 'for every input the law returns true; each argument reads behind the call as it read before'; 0 by the template 'total and deterministic' (their statements: YtemihfcenmhieaaTotals.lean).
  GIVEN WITH THE SEED: the statements are not yours to turn. If you find one false, say at which input.
  Laid BY PROGRAM, IN A SANDBOX (cutbox-rows.mjs): the forced cells as the released guide's own fill.sh prints them over the translation ae1ddf2a4a796165… (all of the seat's roots in one cut). By AI agents, Wed Nov 11 2026. No macro, syntax, notation, axiom, sorry.
-/
import Derived.Test.YtemihfcenmhieaaChecked
import GoSem.Claim
import GoSem.ClaimJoined
import GoSem.ClaimMapViews
import Derived.JoinedTies
import Derived.KernelRfl
namespace Go.Proofs.Ytemihfcenmhieaa
/- THE CELL 'sum', in the pinned program and in every row, IS THE sha256 OF THE DUMP (.gsa) THAT YtemihfcenmhieaaProg.lean LOADS. Nothing in Lean hashes anything: it is a label: what it is worth is what the hold of that sum in a sandbox is worth. -/
noncomputable def Try.pinned : Pinned := { name := "ytemihfcenmhieaa", sum := "ae1ddf2a4a796165788ff7076782c18b0bebb0048ca355eb61912ff6a145f373", checked := Try.checked }
namespace Rows
def none {H : Type} : Left H := { results := [], args := [] }

/-- 'ladderbacklaw31.DomNearest': WHATEVER THE INPUT: true; the input reads as it did. -/
def domNearestSpec : ChangeSpec := { name := "domNearest", fn := fun _ => fun
  | [d] => { results := [.lit (.bool true)], args := [d] }
  | _ => none }
def domNearestRow : OpenClaim := { program := "ytemihfcenmhieaa", sum := "ae1ddf2a4a796165788ff7076782c18b0bebb0048ca355eb61912ff6a145f373", func := "ladderback/ladderbacklaw31.DomNearest", spec := "domNearest", unfollowed := true, recurses := true, apart := false }
def DomNearestSaid : Prop := domNearestRow.holds Try.pinned (OpenSpec.ofChange domNearestSpec)

/-- ITS FALSE NEIGHBOUR: 'it returns false'. Refute it at one input. -/
def domNearestWrong : ChangeSpec := { name := "domNearest", fn := fun _ => fun
  | [d] => { results := [.lit (.bool false)], args := [d] }
  | _ => none }
def DomNearestWrongFalsely : Prop := domNearestRow.holds Try.pinned (OpenSpec.ofChange domNearestWrong)

/-- 'ladderbacklaw31.DomSets': WHATEVER THE INPUT: true; the input reads as it did. -/
def domSetsSpec : ChangeSpec := { name := "domSets", fn := fun _ => fun
  | [d] => { results := [.lit (.bool true)], args := [d] }
  | _ => none }
def domSetsRow : OpenClaim := { program := "ytemihfcenmhieaa", sum := "ae1ddf2a4a796165788ff7076782c18b0bebb0048ca355eb61912ff6a145f373", func := "ladderback/ladderbacklaw31.DomSets", spec := "domSets", unfollowed := true, recurses := true, apart := false }
def DomSetsSaid : Prop := domSetsRow.holds Try.pinned (OpenSpec.ofChange domSetsSpec)

/-- ITS FALSE NEIGHBOUR: 'it returns false'. Refute it at one input. -/
def domSetsWrong : ChangeSpec := { name := "domSets", fn := fun _ => fun
  | [d] => { results := [.lit (.bool false)], args := [d] }
  | _ => none }
def DomSetsWrongFalsely : Prop := domSetsRow.holds Try.pinned (OpenSpec.ofChange domSetsWrong)

/-- 'ladderbacklaw31.DomWalks': WHATEVER THE INPUT: true; the input reads as it did. -/
def domWalksSpec : ChangeSpec := { name := "domWalks", fn := fun _ => fun
  | [d1, d2, d3] => { results := [.lit (.bool true)], args := [d1, d2, d3] }
  | _ => none }
def domWalksRow : OpenClaim := { program := "ytemihfcenmhieaa", sum := "ae1ddf2a4a796165788ff7076782c18b0bebb0048ca355eb61912ff6a145f373", func := "ladderback/ladderbacklaw31.DomWalks", spec := "domWalks", unfollowed := true, recurses := true, apart := false }
def DomWalksSaid : Prop := domWalksRow.holds Try.pinned (OpenSpec.ofChange domWalksSpec)

/-- ITS FALSE NEIGHBOUR: 'it returns false'. Refute it at one input. -/
def domWalksWrong : ChangeSpec := { name := "domWalks", fn := fun _ => fun
  | [d1, d2, d3] => { results := [.lit (.bool false)], args := [d1, d2, d3] }
  | _ => none }
def DomWalksWrongFalsely : Prop := domWalksRow.holds Try.pinned (OpenSpec.ofChange domWalksWrong)

/- THE SECOND FORM. 'bulk': how many values and letters a reading holds, each counted each time it is reached (what is shared counts as often as it is met; a slice's spare places count too). A statement '..UptoSaid' is the law's where the arguments, and the package variables that the reading takes, are together of bulk at most 1048576: NARROWER than '..Said'. Prove '..Said' where nothing that the law and all that it calls make is longer than what came in: it says more and counts as full. Else prove '..UptoSaid'. A law counts once. -/
mutual
def uptoBulk {H : Type} : DataW H → Nat
  | .lit (.string bytes) => bytes.length + 1
  | .lit _ => 1
  | .nil => 1
  | .ptr d => uptoBulk d + 1
  | .slice elems spare => uptoBulkAll elems + uptoBulkAll spare + 1
  | .agg parts => uptoBulkAll parts + 1
  | .iface _ d => uptoBulk d + 1
  | .map entries => uptoBulkEntries entries + 1
  | .held _ => 1
def uptoBulkAll {H : Type} : List (DataW H) → Nat
  | [] => 0
  | d :: r => uptoBulk d + uptoBulkAll r
def uptoBulkEntries {H : Type} : List (Lit × DataW H) → Nat
  | [] => 0
  | x :: r => uptoBulkEntry x + uptoBulkEntries r
def uptoBulkEntry {H : Type} : Lit × DataW H → Nat
  | (.string bytes, d) => bytes.length + uptoBulk d + 1
  | (_, d) => uptoBulk d + 1
 end
def uptoSmall : (H : Type) → List (DataW H) → Bool := fun _ ds => decide (uptoBulkAll ds ≤ 1048576)
def OpenSpec.upto (s : _root_.Go.ChangeSpec) : _root_.Go.OpenSpec := { _root_.Go.OpenSpec.ofChange s with cond := some uptoSmall }

/-- 'ladderbacklaw31.DomNearest', WHERE WHAT IT READS IS OF BULK AT MOST 1048576: true; the input reads as it did. -/
def domNearestUptoRow : OpenClaim := { program := "ytemihfcenmhieaa", sum := "ae1ddf2a4a796165788ff7076782c18b0bebb0048ca355eb61912ff6a145f373", func := "ladderback/ladderbacklaw31.DomNearest", spec := "domNearest", unfollowed := true, recurses := true, apart := false, narrowed := true }
def DomNearestUptoSaid : Prop := domNearestUptoRow.holds Try.pinned (OpenSpec.upto domNearestSpec)

/-- 'ladderbacklaw31.DomSets', WHERE WHAT IT READS IS OF BULK AT MOST 1048576: true; the input reads as it did. -/
def domSetsUptoRow : OpenClaim := { program := "ytemihfcenmhieaa", sum := "ae1ddf2a4a796165788ff7076782c18b0bebb0048ca355eb61912ff6a145f373", func := "ladderback/ladderbacklaw31.DomSets", spec := "domSets", unfollowed := true, recurses := true, apart := false, narrowed := true }
def DomSetsUptoSaid : Prop := domSetsUptoRow.holds Try.pinned (OpenSpec.upto domSetsSpec)

/-- 'ladderbacklaw31.DomWalks', WHERE WHAT IT READS IS OF BULK AT MOST 1048576: true; the input reads as it did. -/
def domWalksUptoRow : OpenClaim := { program := "ytemihfcenmhieaa", sum := "ae1ddf2a4a796165788ff7076782c18b0bebb0048ca355eb61912ff6a145f373", func := "ladderback/ladderbacklaw31.DomWalks", spec := "domWalks", unfollowed := true, recurses := true, apart := false, narrowed := true }
def DomWalksUptoSaid : Prop := domWalksUptoRow.holds Try.pinned (OpenSpec.upto domWalksSpec)

end Rows
end Go.Proofs.Ytemihfcenmhieaa
