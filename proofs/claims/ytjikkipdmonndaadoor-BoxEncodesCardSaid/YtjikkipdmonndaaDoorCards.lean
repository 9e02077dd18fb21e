/-
  DERIVED. GIVEN WITH THE SEED: THE CARDS: each row of YtjikkipdmonndaaDoorRows.lean that lists a variable, with what it lists TIED to the program's text (the seventh form; the later family's looks); each row that meets fmt, with fmt's text TOLD by the authors' own Lean function (tested against real Go, not proved from fmt's source: count such statements apart). THE CARD IS WHAT COUNTS. Prove the row's statement (the work); the ties are given (YtjikkipdmonndaaDoorTie.lean); close each card by the builder's one call (the guide's Derived/Test/ToyasCard.lean, 'card_holds'). Laid BY PROGRAM, IN A SANDBOX (cutbox-door.mjs). By AI agents, Wed Nov 11 2026. No macro, syntax, notation, axiom, sorry.
-/
import Derived.Test.YtjikkipdmonndaaDoorRows
import GoSem.ClaimSeven
namespace Go.Proofs.YtjikkipdmonndaaDoor
namespace Rows

/-- THE TIED CARD OF 'ladderbacklaw16.BoxEncodes'. -/
def boxEncodesCard : Claim7 := { stood := { row := boxEncodesRow, standIns := [], harness := (true, "c5b6096fd8471302c0dddfab84e9ce1ad9df9ddedfc299fdd5ec2ff5a7f0b793"), looks := true }, kinds := [], alts := [], laidByText := true, laidKinds := [.data], laidTests := true, laidLooks := .later }
def BoxEncodesCardSaid : Prop := Claim7.holds Tryd.pinned (.plain (OpenSpec.ofChange boxEncodesSpec)) boxEncodesCard

/-- THE TIED CARD OF 'ladderbacklaw16.BoxDecodes'. -/
def boxDecodesCard : Claim7 := { stood := { row := boxDecodesRow, standIns := [], harness := (true, "c5b6096fd8471302c0dddfab84e9ce1ad9df9ddedfc299fdd5ec2ff5a7f0b793"), looks := true }, kinds := [], alts := [], laidByText := true, laidKinds := [.data], laidTests := true, laidLooks := .later }
def BoxDecodesCardSaid : Prop := Claim7.holds Tryd.pinned (.plain (OpenSpec.ofChange boxDecodesSpec)) boxDecodesCard

/-- THE TIED CARD OF 'ladderbacklaw16.BoxBack'. -/
def boxBackCard : Claim7 := { stood := { row := boxBackRow, standIns := [], harness := (true, "c5b6096fd8471302c0dddfab84e9ce1ad9df9ddedfc299fdd5ec2ff5a7f0b793"), looks := true }, kinds := [], alts := [], laidByText := true, laidKinds := [.data], laidTests := true, laidLooks := .later }
def BoxBackCardSaid : Prop := Claim7.holds Tryd.pinned (.plain (OpenSpec.ofChange boxBackSpec)) boxBackCard

/-- THE TIED CARD OF 'ladderbacklaw16.BoxOne'. -/
def boxOneCard : Claim7 := { stood := { row := boxOneRow, standIns := [], harness := (true, "c5b6096fd8471302c0dddfab84e9ce1ad9df9ddedfc299fdd5ec2ff5a7f0b793"), looks := true }, kinds := [], alts := [], laidByText := true, laidKinds := [.data], laidTests := true, laidLooks := .later }
def BoxOneCardSaid : Prop := Claim7.holds Tryd.pinned (.plain (OpenSpec.ofChange boxOneSpec)) boxOneCard

/-- THE SECOND FORM's CARD OF 'ladderbacklaw16.BoxEncodes'. -/
def boxEncodesUptoCard : Claim7 := { stood := { row := boxEncodesUptoRow, standIns := [], harness := (true, "c5b6096fd8471302c0dddfab84e9ce1ad9df9ddedfc299fdd5ec2ff5a7f0b793"), looks := true }, kinds := [], alts := [], laidByText := true, laidKinds := [.data], laidTests := true, laidLooks := .later }
def BoxEncodesUptoCardSaid : Prop := Claim7.holds Tryd.pinned (.plain (OpenSpec.upto boxEncodesSpec)) boxEncodesUptoCard

/-- THE SECOND FORM's CARD OF 'ladderbacklaw16.BoxDecodes'. -/
def boxDecodesUptoCard : Claim7 := { stood := { row := boxDecodesUptoRow, standIns := [], harness := (true, "c5b6096fd8471302c0dddfab84e9ce1ad9df9ddedfc299fdd5ec2ff5a7f0b793"), looks := true }, kinds := [], alts := [], laidByText := true, laidKinds := [.data], laidTests := true, laidLooks := .later }
def BoxDecodesUptoCardSaid : Prop := Claim7.holds Tryd.pinned (.plain (OpenSpec.upto boxDecodesSpec)) boxDecodesUptoCard

/-- THE SECOND FORM's CARD OF 'ladderbacklaw16.BoxBack'. -/
def boxBackUptoCard : Claim7 := { stood := { row := boxBackUptoRow, standIns := [], harness := (true, "c5b6096fd8471302c0dddfab84e9ce1ad9df9ddedfc299fdd5ec2ff5a7f0b793"), looks := true }, kinds := [], alts := [], laidByText := true, laidKinds := [.data], laidTests := true, laidLooks := .later }
def BoxBackUptoCardSaid : Prop := Claim7.holds Tryd.pinned (.plain (OpenSpec.upto boxBackSpec)) boxBackUptoCard

/-- THE SECOND FORM's CARD OF 'ladderbacklaw16.BoxOne'. -/
def boxOneUptoCard : Claim7 := { stood := { row := boxOneUptoRow, standIns := [], harness := (true, "c5b6096fd8471302c0dddfab84e9ce1ad9df9ddedfc299fdd5ec2ff5a7f0b793"), looks := true }, kinds := [], alts := [], laidByText := true, laidKinds := [.data], laidTests := true, laidLooks := .later }
def BoxOneUptoCardSaid : Prop := Claim7.holds Tryd.pinned (.plain (OpenSpec.upto boxOneSpec)) boxOneUptoCard
end Rows
end Go.Proofs.YtjikkipdmonndaaDoor
