/-
  DERIVED. GIVEN WITH THE SEED: THE CARDS: each row of YthikfdhgkpakpaaDoorRows.lean that lists a variable, with what it lists TIED to the program's text (the seventh form; the later family's looks); each row that meets fmt, with fmt's text TOLD by the authors' own Lean function (tested against real Go, not proved from fmt's source: count such statements apart). THE CARD IS WHAT COUNTS. Prove the row's statement (the work); the ties are given (YthikfdhgkpakpaaDoorTie.lean); close each card by the builder's one call (the guide's Derived/Test/ToyasCard.lean, 'card_holds'). Laid BY PROGRAM, IN A SANDBOX (cutbox-door.mjs). By AI agents, Wed Nov 11 2026. No macro, syntax, notation, axiom, sorry.
-/
import Derived.Test.YthikfdhgkpakpaaDoorRows
import GoSem.ClaimSeven
namespace Go.Proofs.YthikfdhgkpakpaaDoor
namespace Rows

/-- THE TIED CARD OF 'ladderbacklaw07.AluBins'. -/
def aluBinsCard : Claim7 := { stood := { row := aluBinsRow, standIns := [], harness := (true, "29f59bbcfd43aea9b26c176eabb02ee93f72f385312ba7bba82c1e7a27178e1b"), looks := false }, kinds := [], alts := [], laidByText := true, laidKinds := [.data, .data], laidTests := true, laidLooks := .later }
def AluBinsCardSaid : Prop := Claim7.holds Tryd.pinned (.plain (OpenSpec.ofChange aluBinsSpec)) aluBinsCard

/-- THE TIED CARD OF 'ladderbacklaw07.AluUns'. -/
def aluUnsCard : Claim7 := { stood := { row := aluUnsRow, standIns := [], harness := (true, "29f59bbcfd43aea9b26c176eabb02ee93f72f385312ba7bba82c1e7a27178e1b"), looks := false }, kinds := [], alts := [], laidByText := true, laidKinds := [.data, .data], laidTests := true, laidLooks := .later }
def AluUnsCardSaid : Prop := Claim7.holds Tryd.pinned (.plain (OpenSpec.ofChange aluUnsSpec)) aluUnsCard

/-- THE TIED CARD OF 'ladderbacklaw07.AluLaws'. -/
def aluLawsCard : Claim7 := { stood := { row := aluLawsRow, standIns := [], harness := (true, "29f59bbcfd43aea9b26c176eabb02ee93f72f385312ba7bba82c1e7a27178e1b"), looks := false }, kinds := [], alts := [], laidByText := true, laidKinds := [.data, .data], laidTests := true, laidLooks := .later }
def AluLawsCardSaid : Prop := Claim7.holds Tryd.pinned (.plain (OpenSpec.ofChange aluLawsSpec)) aluLawsCard

/-- THE SECOND FORM's CARD OF 'ladderbacklaw07.AluBins'. -/
def aluBinsUptoCard : Claim7 := { stood := { row := aluBinsUptoRow, standIns := [], harness := (true, "29f59bbcfd43aea9b26c176eabb02ee93f72f385312ba7bba82c1e7a27178e1b"), looks := false }, kinds := [], alts := [], laidByText := true, laidKinds := [.data, .data], laidTests := true, laidLooks := .later }
def AluBinsUptoCardSaid : Prop := Claim7.holds Tryd.pinned (.plain (OpenSpec.upto aluBinsSpec)) aluBinsUptoCard

/-- THE SECOND FORM's CARD OF 'ladderbacklaw07.AluUns'. -/
def aluUnsUptoCard : Claim7 := { stood := { row := aluUnsUptoRow, standIns := [], harness := (true, "29f59bbcfd43aea9b26c176eabb02ee93f72f385312ba7bba82c1e7a27178e1b"), looks := false }, kinds := [], alts := [], laidByText := true, laidKinds := [.data, .data], laidTests := true, laidLooks := .later }
def AluUnsUptoCardSaid : Prop := Claim7.holds Tryd.pinned (.plain (OpenSpec.upto aluUnsSpec)) aluUnsUptoCard

/-- THE SECOND FORM's CARD OF 'ladderbacklaw07.AluLaws'. -/
def aluLawsUptoCard : Claim7 := { stood := { row := aluLawsUptoRow, standIns := [], harness := (true, "29f59bbcfd43aea9b26c176eabb02ee93f72f385312ba7bba82c1e7a27178e1b"), looks := false }, kinds := [], alts := [], laidByText := true, laidKinds := [.data, .data], laidTests := true, laidLooks := .later }
def AluLawsUptoCardSaid : Prop := Claim7.holds Tryd.pinned (.plain (OpenSpec.upto aluLawsSpec)) aluLawsUptoCard
end Rows
end Go.Proofs.YthikfdhgkpakpaaDoor
