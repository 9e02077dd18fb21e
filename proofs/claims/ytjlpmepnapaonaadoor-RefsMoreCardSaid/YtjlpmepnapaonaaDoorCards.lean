/-
  DERIVED. GIVEN WITH THE SEED: THE CARDS: each row of YtjlpmepnapaonaaDoorRows.lean that lists a variable, with what it lists TIED to the program's text (the seventh form; the later family's looks); each row that meets fmt, with fmt's text TOLD by the authors' own Lean function (tested against real Go, not proved from fmt's source: count such statements apart). THE CARD IS WHAT COUNTS. Prove the row's statement (the work); the ties are given (YtjlpmepnapaonaaDoorTie.lean); close each card by the builder's one call (the guide's Derived/Test/ToyasCard.lean, 'card_holds'). Laid BY PROGRAM, IN A SANDBOX (cutbox-door.mjs). By AI agents, Wed Nov 11 2026. No macro, syntax, notation, axiom, sorry.
-/
import Derived.Test.YtjlpmepnapaonaaDoorRows
import GoSem.ClaimSeven
namespace Go.Proofs.YtjlpmepnapaonaaDoor
namespace Rows

/-- THE TIED CARD OF 'ladderbacklaw18.RefsChecks'. -/
def refsChecksCard : Claim7 := { stood := { row := refsChecksRow, standIns := [], harness := (true, "bddb608b25338a171c7ec1a81e89f1373ffc9f8314cf7c9cc02419ea24208ed9"), looks := false }, kinds := [], alts := [], laidByText := true, laidKinds := [.data, .data, .data], laidTests := true, laidLooks := .later }
def RefsChecksCardSaid : Prop := Claim7.holds Tryd.pinned (.plain (OpenSpec.ofChange refsChecksSpec)) refsChecksCard

/-- THE TIED CARD OF 'ladderbacklaw18.RefsMore'. -/
def refsMoreCard : Claim7 := { stood := { row := refsMoreRow, standIns := [], harness := (true, "bddb608b25338a171c7ec1a81e89f1373ffc9f8314cf7c9cc02419ea24208ed9"), looks := false }, kinds := [], alts := [], laidByText := true, laidKinds := [.data, .data, .data], laidTests := true, laidLooks := .later }
def RefsMoreCardSaid : Prop := Claim7.holds Tryd.pinned (.plain (OpenSpec.ofChange refsMoreSpec)) refsMoreCard

/-- THE SECOND FORM's CARD OF 'ladderbacklaw18.RefsChecks'. -/
def refsChecksUptoCard : Claim7 := { stood := { row := refsChecksUptoRow, standIns := [], harness := (true, "bddb608b25338a171c7ec1a81e89f1373ffc9f8314cf7c9cc02419ea24208ed9"), looks := false }, kinds := [], alts := [], laidByText := true, laidKinds := [.data, .data, .data], laidTests := true, laidLooks := .later }
def RefsChecksUptoCardSaid : Prop := Claim7.holds Tryd.pinned (.plain (OpenSpec.upto refsChecksSpec)) refsChecksUptoCard

/-- THE SECOND FORM's CARD OF 'ladderbacklaw18.RefsMore'. -/
def refsMoreUptoCard : Claim7 := { stood := { row := refsMoreUptoRow, standIns := [], harness := (true, "bddb608b25338a171c7ec1a81e89f1373ffc9f8314cf7c9cc02419ea24208ed9"), looks := false }, kinds := [], alts := [], laidByText := true, laidKinds := [.data, .data, .data], laidTests := true, laidLooks := .later }
def RefsMoreUptoCardSaid : Prop := Claim7.holds Tryd.pinned (.plain (OpenSpec.upto refsMoreSpec)) refsMoreUptoCard
end Rows
end Go.Proofs.YtjlpmepnapaonaaDoor
