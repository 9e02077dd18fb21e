/-
  DERIVED. GIVEN WITH THE SEED: THE CARDS: each row of YtajgdfgemcpjgaaDoorRows.lean that lists a variable, with what it lists TIED to the program's text (the seventh form; the later family's looks); each row that meets fmt, with fmt's text TOLD by the authors' own Lean function (tested against real Go, not proved from fmt's source: count such statements apart). THE CARD IS WHAT COUNTS. Prove the row's statement (the work); the ties are given (YtajgdfgemcpjgaaDoorTie.lean); close each card by the builder's one call (the guide's Derived/Test/ToyasCard.lean, 'card_holds'). Laid BY PROGRAM, IN A SANDBOX (cutbox-door.mjs). By AI agents, Wed Nov 11 2026. No macro, syntax, notation, axiom, sorry.
-/
import Derived.Test.YtajgdfgemcpjgaaDoorRows
import GoSem.ClaimSeven
namespace Go.Proofs.YtajgdfgemcpjgaaDoor
namespace Rows

/-- THE TIED CARD OF 'ladderbacklaw11.BlockTells'. -/
def blockTellsCard : Claim7 := { stood := { row := blockTellsRow, standIns := [], harness := (true, "6288bf5218001e4f4acccc47717f37466eb8a4339191f4e4b5497f5c391b0204"), looks := false }, kinds := [], alts := [], laidByText := true, laidKinds := [.data, .data], laidTests := true, laidLooks := .later }
def BlockTellsCardSaid : Prop := Claim7.holds Tryd.pinned (.plain (OpenSpec.ofChange blockTellsSpec)) blockTellsCard

/-- THE TIED CARD OF 'ladderbacklaw11.BlockRuns'. -/
def blockRunsCard : Claim7 := { stood := { row := blockRunsRow, standIns := [], harness := (true, "6288bf5218001e4f4acccc47717f37466eb8a4339191f4e4b5497f5c391b0204"), looks := false }, kinds := [], alts := [], laidByText := true, laidKinds := [.data, .data], laidTests := true, laidLooks := .later }
def BlockRunsCardSaid : Prop := Claim7.holds Tryd.pinned (.plain (OpenSpec.ofChange blockRunsSpec)) blockRunsCard

/-- THE TIED CARD OF 'ladderbacklaw11.BlockKeeps'. -/
def blockKeepsCard : Claim7 := { stood := { row := blockKeepsRow, standIns := [], harness := (true, "6288bf5218001e4f4acccc47717f37466eb8a4339191f4e4b5497f5c391b0204"), looks := false }, kinds := [], alts := [], laidByText := true, laidKinds := [.data, .data], laidTests := true, laidLooks := .later }
def BlockKeepsCardSaid : Prop := Claim7.holds Tryd.pinned (.plain (OpenSpec.ofChange blockKeepsSpec)) blockKeepsCard

/-- THE SECOND FORM's CARD OF 'ladderbacklaw11.BlockTells'. -/
def blockTellsUptoCard : Claim7 := { stood := { row := blockTellsUptoRow, standIns := [], harness := (true, "6288bf5218001e4f4acccc47717f37466eb8a4339191f4e4b5497f5c391b0204"), looks := false }, kinds := [], alts := [], laidByText := true, laidKinds := [.data, .data], laidTests := true, laidLooks := .later }
def BlockTellsUptoCardSaid : Prop := Claim7.holds Tryd.pinned (.plain (OpenSpec.upto blockTellsSpec)) blockTellsUptoCard

/-- THE SECOND FORM's CARD OF 'ladderbacklaw11.BlockRuns'. -/
def blockRunsUptoCard : Claim7 := { stood := { row := blockRunsUptoRow, standIns := [], harness := (true, "6288bf5218001e4f4acccc47717f37466eb8a4339191f4e4b5497f5c391b0204"), looks := false }, kinds := [], alts := [], laidByText := true, laidKinds := [.data, .data], laidTests := true, laidLooks := .later }
def BlockRunsUptoCardSaid : Prop := Claim7.holds Tryd.pinned (.plain (OpenSpec.upto blockRunsSpec)) blockRunsUptoCard

/-- THE SECOND FORM's CARD OF 'ladderbacklaw11.BlockKeeps'. -/
def blockKeepsUptoCard : Claim7 := { stood := { row := blockKeepsUptoRow, standIns := [], harness := (true, "6288bf5218001e4f4acccc47717f37466eb8a4339191f4e4b5497f5c391b0204"), looks := false }, kinds := [], alts := [], laidByText := true, laidKinds := [.data, .data], laidTests := true, laidLooks := .later }
def BlockKeepsUptoCardSaid : Prop := Claim7.holds Tryd.pinned (.plain (OpenSpec.upto blockKeepsSpec)) blockKeepsUptoCard
end Rows
end Go.Proofs.YtajgdfgemcpjgaaDoor
