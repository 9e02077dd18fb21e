/- Layer 14: constants that are read of any bytes, and their bytes. -/
import Derived.Test.YtdpcfcflcfjmjaaRdBlk
namespace Go.Proofs.Ytdpcfcflcfjmjaa
open Go.RowKit
set_option linter.unusedSimpArgs false
set_option linter.unusedVariables false
def cstOk (x : Int × Int) : Bool := fitB x.1
def cstL (x : Int × Int) : List UInt8 := [byteO x.1] ++ putL 8 x.2
def cstsL (L : List (Int × Int)) : List UInt8 := L.flatMap cstL
theorem cstsL_snoc (L : List (Int × Int)) (x : Int × Int) : cstsL (L ++ [x]) = cstsL L ++ cstL x := by simp [cstsL]
theorem cstL_len (x : Int × Int) : (cstL x).length = 9 := by unfold cstL; rw [List.length_append, putL_len]; rfl
theorem cstsL_len : ∀ L : List (Int × Int), (cstsL L).length = 9 * L.length
  | [] => by simp [cstsL]
  | x :: t => by
    have h2 := cstsL_len t
    have e : cstsL (x :: t) = cstL x ++ cstsL t := by simp [cstsL]
    rw [e, List.length_append, List.length_cons, cstL_len, h2]; omega
def okCs (L : List (Int × Int)) : Bool := decide (L.length ≤ 1024) && L.all cstOk
def rCst (L : List UInt8) (n : Nat) (b : Bool) : (Int × Int) × Nat × Bool :=
  (((rNum L 1 n b).1, (rNum L 8 (rNum L 1 n b).2.1 (rNum L 1 n b).2.2).1), (rNum L 8 (rNum L 1 n b).2.1 (rNum L 1 n b).2.2).2)
def goodC (x : Int × Int) : Prop := I64 x.1 ∧ I64 x.2
theorem numV_put8' {z : Int} (h : I64 z) : numV (putL 8 z) = z := numV_put8 z h
theorem readsC : Reads rCst cstL cstOk goodC where
  bad L n hn := by
    show (rNum L 8 (rNum L 1 n true).2.1 (rNum L 1 n true).2.2).2.2 = true
    rw [rNum_bad, rNum_bad]
  at' L n b hn := by
    obtain ⟨h1, h2⟩ := rNum_at L 1 n b hn
    obtain ⟨k1, k2⟩ := rNum_at L 8 (rNum L 1 n b).2.1 (rNum L 1 n b).2.2 h2
    exact ⟨Nat.le_trans h1 k1, k2⟩
  fine L n b hn hL := ⟨numV_in _, numV_in _⟩
  back L n x T hok hx h hn := by
    unfold cstL at h ⊢
    rw [List.append_assoc] at h
    have h1 := rNum_back h hn
    obtain ⟨d1, d2⟩ := drop_enc h hn
    rw [show [byteO x.1].length = 1 from rfl] at h1 d1 d2
    have h2 := rNum_back d1 d2
    rw [putL_len, numV_put8' hx.2] at h2
    rw [byteO_fit hok] at h1
    unfold rCst
    rw [h1]
    dsimp only
    rw [h2, List.length_append, putL_len]
    rfl
  forth L n hn hb := by
    have hb' : (rNum L 8 (rNum L 1 n false).2.1 (rNum L 1 n false).2.2).2.2 = false := hb
    have hb0 : (rNum L 1 n false).2.2 = false := by
      cases hc : (rNum L 1 n false).2.2
      · rfl
      · rw [hc, rNum_bad] at hb'; cases hb'
    rw [hb0] at hb'
    obtain ⟨h1, h2, h3, h4⟩ := rNum_forth hb0
    obtain ⟨k1, k2, k3, k4⟩ := rNum_forth hb'
    obtain ⟨c, hc⟩ : ∃ c, (L.drop n).take 1 = [c] := ⟨_, take_one h1⟩
    rw [hc] at h2 h3
    rw [h2] at k1 k2 k3 k4
    dsimp only at k1 k2 k3 k4
    obtain ⟨f1, f2⟩ := fit_byteO c
    obtain ⟨B8, hB8⟩ : ∃ B8, (L.drop (n + 1)).take 8 = B8 := ⟨_, rfl⟩
    rw [hB8] at k2 k3 k4
    have e : rCst L n false = ((numV [c], numV B8), n + 1 + 8, false) := by
      unfold rCst
      rw [h2]
      dsimp only
      rw [k2]
    rw [e]
    dsimp only
    unfold cstL cstOk
    dsimp only
    rw [f2, putL8_num k4]
    refine ⟨f1, ?_, ?_⟩
    · rw [List.append_assoc, ← k3]
      exact h3
    · simp [k4]
end Go.Proofs.Ytdpcfcflcfjmjaa
