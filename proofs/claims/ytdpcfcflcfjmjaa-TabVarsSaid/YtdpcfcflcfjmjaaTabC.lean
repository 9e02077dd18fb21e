/- Layer 14: a table of blocks as bytes. -/
import Derived.Test.YtdpcfcflcfjmjaaTabBL
import Derived.Test.YtdpcfcflcfjmjaaPgm
namespace Go.Proofs.Ytdpcfcflcfjmjaa
open Go.RowKit
set_option linter.unusedSimpArgs false
set_option linter.unusedVariables false
def blkOk (x : Bk) : Bool := decide (x.name.length ≤ 255) && fitB x.kind
def blkL (x : Bk) : List UInt8 := blkB ⟨x.name.toArray⟩ x.kind
def blksL (L : List Bk) : List UInt8 := L.flatMap blkL
theorem blksL_snoc (L : List Bk) (x : Bk) : blksL (L ++ [x]) = blksL L ++ blkL x := by simp [blksL]
theorem blkL_len {x : Bk} (h : x.name.length ≤ 255) : (blkL x).length ≤ 257 := by
  unfold blkL blkB cut255
  have hsz : (⟨x.name.toArray⟩ : ByteArray).size = x.name.length := by simp [ByteArray.size]
  rw [if_neg (by omega)]
  simp
  omega
theorem tab_PutBlock_any (x : Bk) (w : World) (hs : x.name.length ≤ 1000000) (hk : I64 x.kind) :
    Calls Try.prog 44 #[.agg #[.string ⟨x.name.toArray⟩, .int .i64 x.kind]] w fun e w' => ∃ r, e = .returned (.tuple #[r, .bool (blkOk x)]) ∧ (x.name.length ≤ 255 → w'.ownsRow (w.heap.size + 1) 5 1 r (blkL x).length (bytesV (blkL x))) ∧ Below w.heap.size w w' := by
  have hsz : (⟨x.name.toArray⟩ : ByteArray).size = x.name.length := by simp [ByteArray.size]
  by_cases h : x.name.length ≤ 255
  · refine (tab_PutBlock ⟨x.name.toArray⟩ x.kind w (by omega) hk (by omega)).mono ?_
    rintro e w' ⟨r, rfl, h1, h2⟩
    exact ⟨r, by unfold blkOk; rw [decide_eq_true h]; rfl, fun _ => h1, h2⟩
  · refine (tab_PutBlock_long ⟨x.name.toArray⟩ x.kind w (by omega) hk (by omega)).mono ?_
    rintro e w' ⟨r, rfl, h2⟩
    exact ⟨r, by unfold blkOk; rw [decide_eq_false h]; rfl, fun h' => absurd h' h, h2⟩
end Go.Proofs.Ytdpcfcflcfjmjaa
