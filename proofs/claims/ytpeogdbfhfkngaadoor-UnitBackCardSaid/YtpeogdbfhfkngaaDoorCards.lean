/-
  DERIVED. GIVEN WITH THE SEED: THE CARDS: each row of YtpeogdbfhfkngaaDoorRows.lean that lists a variable, with what it lists TIED to the program's text (the seventh form; the later family's looks); each row that meets fmt, with fmt's text TOLD by the authors' own Lean function (tested against real Go, not proved from fmt's source: count such statements apart). THE CARD IS WHAT COUNTS. Prove the row's statement (the work); the ties are given (YtpeogdbfhfkngaaDoorTie.lean); close each card by the builder's one call (the guide's Derived/Test/ToyasCard.lean, 'card_holds'). Laid BY PROGRAM, IN A SANDBOX (cutbox-door.mjs). By AI agents, Wed Nov 11 2026. No macro, syntax, notation, axiom, sorry.
-/
import Derived.Test.YtpeogdbfhfkngaaDoorRows
import GoSem.ClaimSeven
namespace Go.Proofs.YtpeogdbfhfkngaaDoor
namespace Rows

/-- THE TIED CARD OF 'ladderbacklaw15.UnitPuts'. -/
def unitPutsCard : Claim7 := { stood := { row := unitPutsRow, standIns := [], harness := (true, "6a088f6a6be9a6e83454b44456047f971743f38bd9cb0a20e46451ed61c77102"), looks := false }, kinds := [], alts := [], laidByText := true, laidKinds := [.data], laidTests := true, laidLooks := .later }
def UnitPutsCardSaid : Prop := Claim7.holds Tryd.pinned (.plain (OpenSpec.ofChange unitPutsSpec)) unitPutsCard

/-- THE TIED CARD OF 'ladderbacklaw15.UnitGets'. -/
def unitGetsCard : Claim7 := { stood := { row := unitGetsRow, standIns := [], harness := (true, "6a088f6a6be9a6e83454b44456047f971743f38bd9cb0a20e46451ed61c77102"), looks := false }, kinds := [], alts := [], laidByText := true, laidKinds := [.data], laidTests := true, laidLooks := .later }
def UnitGetsCardSaid : Prop := Claim7.holds Tryd.pinned (.plain (OpenSpec.ofChange unitGetsSpec)) unitGetsCard

/-- THE TIED CARD OF 'ladderbacklaw15.UnitBack'. -/
def unitBackCard : Claim7 := { stood := { row := unitBackRow, standIns := [], harness := (true, "6a088f6a6be9a6e83454b44456047f971743f38bd9cb0a20e46451ed61c77102"), looks := false }, kinds := [], alts := [], laidByText := true, laidKinds := [.data], laidTests := true, laidLooks := .later }
def UnitBackCardSaid : Prop := Claim7.holds Tryd.pinned (.plain (OpenSpec.ofChange unitBackSpec)) unitBackCard

/-- THE SECOND FORM's CARD OF 'ladderbacklaw15.UnitPuts'. -/
def unitPutsUptoCard : Claim7 := { stood := { row := unitPutsUptoRow, standIns := [], harness := (true, "6a088f6a6be9a6e83454b44456047f971743f38bd9cb0a20e46451ed61c77102"), looks := false }, kinds := [], alts := [], laidByText := true, laidKinds := [.data], laidTests := true, laidLooks := .later }
def UnitPutsUptoCardSaid : Prop := Claim7.holds Tryd.pinned (.plain (OpenSpec.upto unitPutsSpec)) unitPutsUptoCard

/-- THE SECOND FORM's CARD OF 'ladderbacklaw15.UnitGets'. -/
def unitGetsUptoCard : Claim7 := { stood := { row := unitGetsUptoRow, standIns := [], harness := (true, "6a088f6a6be9a6e83454b44456047f971743f38bd9cb0a20e46451ed61c77102"), looks := false }, kinds := [], alts := [], laidByText := true, laidKinds := [.data], laidTests := true, laidLooks := .later }
def UnitGetsUptoCardSaid : Prop := Claim7.holds Tryd.pinned (.plain (OpenSpec.upto unitGetsSpec)) unitGetsUptoCard

/-- THE SECOND FORM's CARD OF 'ladderbacklaw15.UnitBack'. -/
def unitBackUptoCard : Claim7 := { stood := { row := unitBackUptoRow, standIns := [], harness := (true, "6a088f6a6be9a6e83454b44456047f971743f38bd9cb0a20e46451ed61c77102"), looks := false }, kinds := [], alts := [], laidByText := true, laidKinds := [.data], laidTests := true, laidLooks := .later }
def UnitBackUptoCardSaid : Prop := Claim7.holds Tryd.pinned (.plain (OpenSpec.upto unitBackSpec)) unitBackUptoCard
end Rows
end Go.Proofs.YtpeogdbfhfkngaaDoor
