/-
  DERIVED. GIVEN WITH THE SEED: THE CARDS: each row of YtnkmnmlhjanplaaDoorRows.lean that lists a variable, with what it lists TIED to the program's text (the seventh form; the later family's looks); each row that meets fmt, with fmt's text TOLD by the authors' own Lean function (tested against real Go, not proved from fmt's source: count such statements apart). THE CARD IS WHAT COUNTS. Prove the row's statement (the work); the ties are given (YtnkmnmlhjanplaaDoorTie.lean); close each card by the builder's one call (the guide's Derived/Test/ToyasCard.lean, 'card_holds'). Laid BY PROGRAM, IN A SANDBOX (cutbox-door.mjs). By AI agents, Wed Nov 11 2026. No macro, syntax, notation, axiom, sorry.
-/
import Derived.Test.YtnkmnmlhjanplaaDoorRows
import GoSem.ClaimSeven
namespace Go.Proofs.YtnkmnmlhjanplaaDoor
namespace Rows

/-- THE TIED CARD OF 'ladderbacklaw20.TypingTells'. -/
def typingTellsCard : Claim7 := { stood := { row := typingTellsRow, standIns := [], harness := (true, "8d1f1b08cdb13fb8fe212ca0a13e14858610d2c1607208ba53703b658054dc4c"), looks := false }, kinds := [], alts := [], laidByText := true, laidKinds := [.data, .data, .data, .data], laidTests := true, laidLooks := .later }
def TypingTellsCardSaid : Prop := Claim7.holds Tryd.pinned (.plain (OpenSpec.ofChange typingTellsSpec)) typingTellsCard

/-- THE TIED CARD OF 'ladderbacklaw20.TypingSame'. -/
def typingSameCard : Claim7 := { stood := { row := typingSameRow, standIns := [], harness := (true, "8d1f1b08cdb13fb8fe212ca0a13e14858610d2c1607208ba53703b658054dc4c"), looks := false }, kinds := [], alts := [], laidByText := true, laidKinds := [.data, .data, .data, .data], laidTests := true, laidLooks := .later }
def TypingSameCardSaid : Prop := Claim7.holds Tryd.pinned (.plain (OpenSpec.ofChange typingSameSpec)) typingSameCard

/-- THE SECOND FORM's CARD OF 'ladderbacklaw20.TypingTells'. -/
def typingTellsUptoCard : Claim7 := { stood := { row := typingTellsUptoRow, standIns := [], harness := (true, "8d1f1b08cdb13fb8fe212ca0a13e14858610d2c1607208ba53703b658054dc4c"), looks := false }, kinds := [], alts := [], laidByText := true, laidKinds := [.data, .data, .data, .data], laidTests := true, laidLooks := .later }
def TypingTellsUptoCardSaid : Prop := Claim7.holds Tryd.pinned (.plain (OpenSpec.upto typingTellsSpec)) typingTellsUptoCard

/-- THE SECOND FORM's CARD OF 'ladderbacklaw20.TypingSame'. -/
def typingSameUptoCard : Claim7 := { stood := { row := typingSameUptoRow, standIns := [], harness := (true, "8d1f1b08cdb13fb8fe212ca0a13e14858610d2c1607208ba53703b658054dc4c"), looks := false }, kinds := [], alts := [], laidByText := true, laidKinds := [.data, .data, .data, .data], laidTests := true, laidLooks := .later }
def TypingSameUptoCardSaid : Prop := Claim7.holds Tryd.pinned (.plain (OpenSpec.upto typingSameSpec)) typingSameUptoCard
end Rows
end Go.Proofs.YtnkmnmlhjanplaaDoor
