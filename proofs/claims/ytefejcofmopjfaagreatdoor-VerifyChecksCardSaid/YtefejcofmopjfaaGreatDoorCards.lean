/-
  DERIVED. GIVEN WITH THE SEED: THE CARDS: each row of YtefejcofmopjfaaGreatDoorRows.lean that lists a variable, with what it lists TIED to the program's text (the seventh form; the later family's looks); each row that meets fmt, with fmt's text TOLD by the authors' own Lean function (tested against real Go, not proved from fmt's source: count such statements apart). THE CARD IS WHAT COUNTS. Prove the row's statement (the work); the ties are given (YtefejcofmopjfaaGreatDoorTie.lean); close each card by the builder's one call (the guide's Derived/Test/ToyasCard.lean, 'card_holds'). Laid BY PROGRAM, IN A SANDBOX (cutbox-door.mjs). By AI agents, Wed Nov 11 2026. No macro, syntax, notation, axiom, sorry.
-/
import Derived.Test.YtefejcofmopjfaaGreatDoorRows
import GoSem.ClaimSeven
namespace Go.Proofs.YtefejcofmopjfaaGreatDoor
namespace Rows

/-- THE TIED CARD OF 'ladderbacklaw22.VerifyChecks'. -/
def verifyChecksCard : Claim7 := { stood := { row := verifyChecksRow, standIns := [], harness := (true, "9b8fc29c635ad3e4f437b587a223bb9551be7e322ffe24ff3da88b623a2ffdb7"), looks := true }, kinds := [], alts := [], laidByText := true, laidKinds := [.data, .data, .data, .handle, .data], laidTests := true, laidLooks := .later }
def VerifyChecksCardSaid : Prop := Claim7.holds Tryz.pinned (.plain (OpenSpec.ofChange verifyChecksSpec)) verifyChecksCard

/-- THE TIED CARD OF 'ladderbacklaw22.VerifyLess'. -/
def verifyLessCard : Claim7 := { stood := { row := verifyLessRow, standIns := [], harness := (true, "9b8fc29c635ad3e4f437b587a223bb9551be7e322ffe24ff3da88b623a2ffdb7"), looks := true }, kinds := [], alts := [], laidByText := true, laidKinds := [.data, .data, .data, .handle, .data], laidTests := true, laidLooks := .later }
def VerifyLessCardSaid : Prop := Claim7.holds Tryz.pinned (.plain (OpenSpec.ofChange verifyLessSpec)) verifyLessCard

/-- THE SECOND FORM's CARD OF 'ladderbacklaw22.VerifyChecks'. -/
def verifyChecksUptoCard : Claim7 := { stood := { row := verifyChecksUptoRow, standIns := [], harness := (true, "9b8fc29c635ad3e4f437b587a223bb9551be7e322ffe24ff3da88b623a2ffdb7"), looks := true }, kinds := [], alts := [], laidByText := true, laidKinds := [.data, .data, .data, .handle, .data], laidTests := true, laidLooks := .later }
def VerifyChecksUptoCardSaid : Prop := Claim7.holds Tryz.pinned (.plain (OpenSpec.upto verifyChecksSpec)) verifyChecksUptoCard

/-- THE SECOND FORM's CARD OF 'ladderbacklaw22.VerifyLess'. -/
def verifyLessUptoCard : Claim7 := { stood := { row := verifyLessUptoRow, standIns := [], harness := (true, "9b8fc29c635ad3e4f437b587a223bb9551be7e322ffe24ff3da88b623a2ffdb7"), looks := true }, kinds := [], alts := [], laidByText := true, laidKinds := [.data, .data, .data, .handle, .data], laidTests := true, laidLooks := .later }
def VerifyLessUptoCardSaid : Prop := Claim7.holds Tryz.pinned (.plain (OpenSpec.upto verifyLessSpec)) verifyLessUptoCard
end Rows
end Go.Proofs.YtefejcofmopjfaaGreatDoor
