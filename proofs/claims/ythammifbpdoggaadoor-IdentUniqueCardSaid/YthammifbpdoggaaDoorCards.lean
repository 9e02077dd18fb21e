/-
  DERIVED. GIVEN WITH THE SEED: THE CARDS: each row of YthammifbpdoggaaDoorRows.lean that lists a variable, with what it lists TIED to the program's text (the seventh form; the later family's looks); each row that meets fmt, with fmt's text TOLD by the authors' own Lean function (tested against real Go, not proved from fmt's source: count such statements apart). THE CARD IS WHAT COUNTS. Prove the row's statement (the work); the ties are given (YthammifbpdoggaaDoorTie.lean); close each card by the builder's one call (the guide's Derived/Test/ToyasCard.lean, 'card_holds'). Laid BY PROGRAM, IN A SANDBOX (cutbox-door.mjs). By AI agents, Wed Nov 11 2026. No macro, syntax, notation, axiom, sorry.
-/
import Derived.Test.YthammifbpdoggaaDoorRows
import GoSem.ClaimSeven
namespace Go.Proofs.YthammifbpdoggaaDoor
namespace Rows

/-- THE TIED CARD OF 'ladderbacklaw05.IdentRight'. -/
def identRightCard : Claim7 := { stood := { row := identRightRow, standIns := [], harness := (true, "ecdc2a2d33b8ec83876151192f1ee95c83f23d845e2580352d99b3030390095f"), looks := false }, kinds := [], alts := [], laidByText := true, laidKinds := [.data, .data, .data, .data, .data], laidTests := true, laidLooks := .later }
def IdentRightCardSaid : Prop := Claim7.holds Tryd.pinned (.plain (OpenSpec.ofChange identRightSpec)) identRightCard

/-- THE TIED CARD OF 'ladderbacklaw05.IdentUnique'. -/
def identUniqueCard : Claim7 := { stood := { row := identUniqueRow, standIns := [], harness := (true, "ecdc2a2d33b8ec83876151192f1ee95c83f23d845e2580352d99b3030390095f"), looks := false }, kinds := [], alts := [], laidByText := true, laidKinds := [.data, .data, .data, .data, .data], laidTests := true, laidLooks := .later }
def IdentUniqueCardSaid : Prop := Claim7.holds Tryd.pinned (.plain (OpenSpec.ofChange identUniqueSpec)) identUniqueCard

/-- THE TIED CARD OF 'ladderbacklaw05.IdentApart'. -/
def identApartCard : Claim7 := { stood := { row := identApartRow, standIns := [], harness := (true, "ecdc2a2d33b8ec83876151192f1ee95c83f23d845e2580352d99b3030390095f"), looks := false }, kinds := [], alts := [], laidByText := true, laidKinds := [.data, .data, .data, .data, .data], laidTests := true, laidLooks := .later }
def IdentApartCardSaid : Prop := Claim7.holds Tryd.pinned (.plain (OpenSpec.ofChange identApartSpec)) identApartCard

/-- THE SECOND FORM's CARD OF 'ladderbacklaw05.IdentRight'. -/
def identRightUptoCard : Claim7 := { stood := { row := identRightUptoRow, standIns := [], harness := (true, "ecdc2a2d33b8ec83876151192f1ee95c83f23d845e2580352d99b3030390095f"), looks := false }, kinds := [], alts := [], laidByText := true, laidKinds := [.data, .data, .data, .data, .data], laidTests := true, laidLooks := .later }
def IdentRightUptoCardSaid : Prop := Claim7.holds Tryd.pinned (.plain (OpenSpec.upto identRightSpec)) identRightUptoCard

/-- THE SECOND FORM's CARD OF 'ladderbacklaw05.IdentUnique'. -/
def identUniqueUptoCard : Claim7 := { stood := { row := identUniqueUptoRow, standIns := [], harness := (true, "ecdc2a2d33b8ec83876151192f1ee95c83f23d845e2580352d99b3030390095f"), looks := false }, kinds := [], alts := [], laidByText := true, laidKinds := [.data, .data, .data, .data, .data], laidTests := true, laidLooks := .later }
def IdentUniqueUptoCardSaid : Prop := Claim7.holds Tryd.pinned (.plain (OpenSpec.upto identUniqueSpec)) identUniqueUptoCard

/-- THE SECOND FORM's CARD OF 'ladderbacklaw05.IdentApart'. -/
def identApartUptoCard : Claim7 := { stood := { row := identApartUptoRow, standIns := [], harness := (true, "ecdc2a2d33b8ec83876151192f1ee95c83f23d845e2580352d99b3030390095f"), looks := false }, kinds := [], alts := [], laidByText := true, laidKinds := [.data, .data, .data, .data, .data], laidTests := true, laidLooks := .later }
def IdentApartUptoCardSaid : Prop := Claim7.holds Tryd.pinned (.plain (OpenSpec.upto identApartSpec)) identApartUptoCard
end Rows
end Go.Proofs.YthammifbpdoggaaDoor
