/-
  DERIVED. GIVEN WITH THE SEED: THE CARDS: each row of YtjkblhopdjgkiaaDoorRows.lean that lists a variable, with what it lists TIED to the program's text (the seventh form; the later family's looks); each row that meets fmt, with fmt's text TOLD by the authors' own Lean function (tested against real Go, not proved from fmt's source: count such statements apart). THE CARD IS WHAT COUNTS. Prove the row's statement (the work); the ties are given (YtjkblhopdjgkiaaDoorTie.lean); close each card by the builder's one call (the guide's Derived/Test/ToyasCard.lean, 'card_holds'). Laid BY PROGRAM, IN A SANDBOX (cutbox-door.mjs). By AI agents, Wed Nov 11 2026. No macro, syntax, notation, axiom, sorry.
-/
import Derived.Test.YtjkblhopdjgkiaaDoorRows
import GoSem.ClaimSeven
namespace Go.Proofs.YtjkblhopdjgkiaaDoor
namespace Rows

/-- THE TIED CARD OF 'ladderbacklaw19.StackTakes'. -/
def stackTakesCard : Claim7 := { stood := { row := stackTakesRow, standIns := [], harness := (true, "ba5caf22dc971ce6ad959528b65e46c290d1037079ae17513efe2055d28d2608"), looks := false }, kinds := [], alts := [], laidByText := true, laidKinds := [.data, .data, .data, .data], laidTests := true, laidLooks := .later }
def StackTakesCardSaid : Prop := Claim7.holds Tryd.pinned (.plain (OpenSpec.ofChange stackTakesSpec)) stackTakesCard

/-- THE TIED CARD OF 'ladderbacklaw19.StackBelow'. -/
def stackBelowCard : Claim7 := { stood := { row := stackBelowRow, standIns := [], harness := (true, "ba5caf22dc971ce6ad959528b65e46c290d1037079ae17513efe2055d28d2608"), looks := false }, kinds := [], alts := [], laidByText := true, laidKinds := [.data, .data, .data, .data], laidTests := true, laidLooks := .later }
def StackBelowCardSaid : Prop := Claim7.holds Tryd.pinned (.plain (OpenSpec.ofChange stackBelowSpec)) stackBelowCard

/-- THE SECOND FORM's CARD OF 'ladderbacklaw19.StackTakes'. -/
def stackTakesUptoCard : Claim7 := { stood := { row := stackTakesUptoRow, standIns := [], harness := (true, "ba5caf22dc971ce6ad959528b65e46c290d1037079ae17513efe2055d28d2608"), looks := false }, kinds := [], alts := [], laidByText := true, laidKinds := [.data, .data, .data, .data], laidTests := true, laidLooks := .later }
def StackTakesUptoCardSaid : Prop := Claim7.holds Tryd.pinned (.plain (OpenSpec.upto stackTakesSpec)) stackTakesUptoCard

/-- THE SECOND FORM's CARD OF 'ladderbacklaw19.StackBelow'. -/
def stackBelowUptoCard : Claim7 := { stood := { row := stackBelowUptoRow, standIns := [], harness := (true, "ba5caf22dc971ce6ad959528b65e46c290d1037079ae17513efe2055d28d2608"), looks := false }, kinds := [], alts := [], laidByText := true, laidKinds := [.data, .data, .data, .data], laidTests := true, laidLooks := .later }
def StackBelowUptoCardSaid : Prop := Claim7.holds Tryd.pinned (.plain (OpenSpec.upto stackBelowSpec)) stackBelowUptoCard
end Rows
end Go.Proofs.YtjkblhopdjgkiaaDoor
