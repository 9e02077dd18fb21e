/-
  DERIVED. GIVEN WITH THE SEED: THE CARDS: each row of YtpliefabefmmjaaDoorRows.lean that lists a variable, with what it lists TIED to the program's text (the seventh form; the later family's looks); each row that meets fmt, with fmt's text TOLD by the authors' own Lean function (tested against real Go, not proved from fmt's source: count such statements apart). THE CARD IS WHAT COUNTS. Prove the row's statement (the work); the ties are given (YtpliefabefmmjaaDoorTie.lean); close each card by the builder's one call (the guide's Derived/Test/ToyasCard.lean, 'card_holds'). Laid BY PROGRAM, IN A SANDBOX (cutbox-door.mjs). By AI agents, Wed Nov 11 2026. No macro, syntax, notation, axiom, sorry.
-/
import Derived.Test.YtpliefabefmmjaaDoorRows
import GoSem.ClaimSeven
namespace Go.Proofs.YtpliefabefmmjaaDoor
namespace Rows

/-- THE TIED CARD OF 'ladderbacklaw01.KindTells'. -/
def kindTellsCard : Claim7 := { stood := { row := kindTellsRow, standIns := [], harness := (true, "41c5e9632aa5a9e4f50e8cbb7b14be54c41a1a78514f9fd8d5ac77acb39feda3"), looks := false }, kinds := [], alts := [], laidByText := true, laidKinds := [.data, .data], laidTests := true, laidLooks := .later }
def KindTellsCardSaid : Prop := Claim7.holds Tryd.pinned (.plain (OpenSpec.ofChange kindTellsSpec)) kindTellsCard

/-- THE TIED CARD OF 'ladderbacklaw01.KindWraps'. -/
def kindWrapsCard : Claim7 := { stood := { row := kindWrapsRow, standIns := [], harness := (true, "41c5e9632aa5a9e4f50e8cbb7b14be54c41a1a78514f9fd8d5ac77acb39feda3"), looks := false }, kinds := [], alts := [], laidByText := true, laidKinds := [.data], laidTests := true, laidLooks := .later }
def KindWrapsCardSaid : Prop := Claim7.holds Tryd.pinned (.plain (OpenSpec.ofChange kindWrapsSpec)) kindWrapsCard

/-- THE TIED CARD OF 'ladderbacklaw01.KindStays'. -/
def kindStaysCard : Claim7 := { stood := { row := kindStaysRow, standIns := [], harness := (true, "41c5e9632aa5a9e4f50e8cbb7b14be54c41a1a78514f9fd8d5ac77acb39feda3"), looks := false }, kinds := [], alts := [], laidByText := true, laidKinds := [.data], laidTests := true, laidLooks := .later }
def KindStaysCardSaid : Prop := Claim7.holds Tryd.pinned (.plain (OpenSpec.ofChange kindStaysSpec)) kindStaysCard

/-- THE SECOND FORM's CARD OF 'ladderbacklaw01.KindTells'. -/
def kindTellsUptoCard : Claim7 := { stood := { row := kindTellsUptoRow, standIns := [], harness := (true, "41c5e9632aa5a9e4f50e8cbb7b14be54c41a1a78514f9fd8d5ac77acb39feda3"), looks := false }, kinds := [], alts := [], laidByText := true, laidKinds := [.data, .data], laidTests := true, laidLooks := .later }
def KindTellsUptoCardSaid : Prop := Claim7.holds Tryd.pinned (.plain (OpenSpec.upto kindTellsSpec)) kindTellsUptoCard

/-- THE SECOND FORM's CARD OF 'ladderbacklaw01.KindWraps'. -/
def kindWrapsUptoCard : Claim7 := { stood := { row := kindWrapsUptoRow, standIns := [], harness := (true, "41c5e9632aa5a9e4f50e8cbb7b14be54c41a1a78514f9fd8d5ac77acb39feda3"), looks := false }, kinds := [], alts := [], laidByText := true, laidKinds := [.data], laidTests := true, laidLooks := .later }
def KindWrapsUptoCardSaid : Prop := Claim7.holds Tryd.pinned (.plain (OpenSpec.upto kindWrapsSpec)) kindWrapsUptoCard

/-- THE SECOND FORM's CARD OF 'ladderbacklaw01.KindStays'. -/
def kindStaysUptoCard : Claim7 := { stood := { row := kindStaysUptoRow, standIns := [], harness := (true, "41c5e9632aa5a9e4f50e8cbb7b14be54c41a1a78514f9fd8d5ac77acb39feda3"), looks := false }, kinds := [], alts := [], laidByText := true, laidKinds := [.data], laidTests := true, laidLooks := .later }
def KindStaysUptoCardSaid : Prop := Claim7.holds Tryd.pinned (.plain (OpenSpec.upto kindStaysSpec)) kindStaysUptoCard
end Rows
end Go.Proofs.YtpliefabefmmjaaDoor
