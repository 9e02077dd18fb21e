/- Layer 14: blocks that are read of any bytes. -/
import Derived.Test.YtdpcfcflcfjmjaaRdBase
import Derived.Test.YtdpcfcflcfjmjaaTabD
namespace Go.Proofs.Ytdpcfcflcfjmjaa
open Go.RowKit
set_option linter.unusedSimpArgs false
set_option linter.unusedVariables false
def rBlk (L : List UInt8) (n : Nat) (b : Bool) : Bk × Nat × Bool :=
  (⟨(rText L n b).1, (rNum L 1 (rText L n b).2.1 (rText L n b).2.2).1⟩, (rNum L 1 (rText L n b).2.1 (rText L n b).2.2).2)
def goodB (x : Bk) : Prop := x.name.length ≤ 1000000 ∧ I64 x.kind
theorem blkL_eq {x : Bk} (h : x.name.length ≤ 255) : blkL x = (UInt8.ofNat x.name.length :: x.name) ++ [byteO x.kind] := by
  unfold blkL blkB cut255
  have hsz : (⟨x.name.toArray⟩ : ByteArray).size = x.name.length := by simp [ByteArray.size]
  rw [if_neg (by omega)]
  simp [hsz]
theorem byteO_fit {z : Int} (h : fitB z = true) : numV [byteO z] = z := by
  unfold fitB at h
  have h' := of_decide_eq_true h
  rw [numV_one, byteO_val]
  omega
theorem fit_byteO (c : UInt8) : fitB (numV [c]) = true ∧ byteO (numV [c]) = c := by
  have hc := c.toNat_lt
  rw [numV_one]
  refine ⟨fitB_yes (by omega) (by omega), UInt8.toNat_inj.1 ?_⟩
  have := byteO_val (c.toNat : Int)
  omega
theorem readsB : Reads rBlk blkL blkOk goodB where
  bad L n hn := by
    show (rNum L 1 (rText L n true).2.1 (rText L n true).2.2).2.2 = true
    rw [rText_bad, rNum_bad]
  at' L n b hn := by
    obtain ⟨h1, h2⟩ := rText_at L n b hn
    obtain ⟨k1, k2⟩ := rNum_at L 1 (rText L n b).2.1 (rText L n b).2.2 h2
    exact ⟨Nat.le_trans h1 k1, k2⟩
  fine L n b hn hL := ⟨by have := rText_len L n b; show (rText L n b).1.length ≤ _; omega, numV_in _⟩
  back L n x T hok hx h hn := by
    unfold blkOk at hok
    rw [Bool.and_eq_true] at hok
    have hs : x.name.length ≤ 255 := of_decide_eq_true hok.1
    rw [blkL_eq hs] at h ⊢
    rw [List.append_assoc] at h
    have h1 := rText_back h hn hs
    obtain ⟨d1, d2⟩ := drop_enc h hn
    have e1 : (UInt8.ofNat x.name.length :: x.name).length = 1 + x.name.length := by simp; omega
    rw [e1] at d1 d2
    have h2 := rNum_back d1 d2
    rw [show [byteO x.kind].length = 1 from rfl, byteO_fit hok.2] at h2
    unfold rBlk
    rw [h1]
    dsimp only
    rw [h2, List.length_append, e1, Nat.add_assoc]
    rfl
  forth L n hn hb := by
    have hb' : (rNum L 1 (rText L n false).2.1 (rText L n false).2.2).2.2 = false := hb
    have hb0 : (rText L n false).2.2 = false := by
      cases hc : (rText L n false).2.2
      · rfl
      · rw [hc, rNum_bad] at hb'; cases hb'
    rw [hb0] at hb'
    obtain ⟨h1, h2, h3⟩ := rText_forth hb0
    obtain ⟨k1, k2, k3, k4⟩ := rNum_forth hb'
    obtain ⟨c, hc⟩ : ∃ c, (L.drop (rText L n false).2.1).take 1 = [c] := ⟨_, take_one k1⟩
    rw [hc] at k2 k3
    obtain ⟨f1, f2⟩ := fit_byteO c
    have e : rBlk L n false = (⟨(rText L n false).1, numV [c]⟩, (rText L n false).2.1 + 1, false) := by
      unfold rBlk
      rw [hb0, k2]
    rw [e]
    dsimp only
    have hs : (⟨(rText L n false).1, numV [c]⟩ : Bk).name.length ≤ 255 := h1
    rw [blkL_eq hs]
    dsimp only
    rw [f2]
    refine ⟨?_, ?_, ?_⟩
    · unfold blkOk
      rw [decide_eq_true hs, f1]
      rfl
    · rw [List.append_assoc, ← k3]
      exact h2
    · rw [h3]; simp; omega
end Go.Proofs.Ytdpcfcflcfjmjaa
