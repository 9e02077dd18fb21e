/- Layer 14: variables that are read of any bytes, and their bytes. -/
import Derived.Test.YtdpcfcflcfjmjaaRdCst
namespace Go.Proofs.Ytdpcfcflcfjmjaa
open Go.RowKit
set_option linter.unusedSimpArgs false
set_option linter.unusedVariables false
def varOk (x : Vr) : Bool := decide (x.name.length ≤ 255) && (fitB x.t && (fitB x.n && fitB x.area))
def varL (x : Vr) : List UInt8 := (UInt8.ofNat x.name.length :: x.name) ++ ([byteO x.t, byteO x.n, byteO x.area] ++ putL 8 x.init)
def varsL (L : List Vr) : List UInt8 := L.flatMap varL
theorem varsL_snoc (L : List Vr) (x : Vr) : varsL (L ++ [x]) = varsL L ++ varL x := by simp [varsL]
theorem varL_len (x : Vr) : (varL x).length = x.name.length + 12 := by unfold varL; simp [putL_len]
theorem varsL_len : ∀ L : List Vr, L.all varOk = true → (varsL L).length ≤ 267 * L.length
  | [], _ => by simp [varsL]
  | x :: t, h => by
    have h' := h
    rw [List.all_cons, Bool.and_eq_true] at h'
    have h1 := varL_len x
    have h3 : x.name.length ≤ 255 := by have := h'.1; unfold varOk at this; simp at this; exact this.1
    have h2 := varsL_len t h'.2
    have e : varsL (x :: t) = varL x ++ varsL t := by simp [varsL]
    rw [e, List.length_append, List.length_cons]; omega
def okVs (L : List Vr) : Bool := decide (L.length ≤ 64) && L.all varOk
/-- four states: behind the name, and behind each number -/
def rV1 (L : List UInt8) (n : Nat) (b : Bool) : List UInt8 × Nat × Bool := rText L n b
def rV2 (L : List UInt8) (n : Nat) (b : Bool) : Int × Nat × Bool := rNum L 1 (rV1 L n b).2.1 (rV1 L n b).2.2
def rV3 (L : List UInt8) (n : Nat) (b : Bool) : Int × Nat × Bool := rNum L 1 (rV2 L n b).2.1 (rV2 L n b).2.2
def rV4 (L : List UInt8) (n : Nat) (b : Bool) : Int × Nat × Bool := rNum L 1 (rV3 L n b).2.1 (rV3 L n b).2.2
def rV5 (L : List UInt8) (n : Nat) (b : Bool) : Int × Nat × Bool := rNum L 8 (rV4 L n b).2.1 (rV4 L n b).2.2
def rVar (L : List UInt8) (n : Nat) (b : Bool) : Vr × Nat × Bool := (⟨(rV1 L n b).1, (rV2 L n b).1, (rV3 L n b).1, (rV4 L n b).1, (rV5 L n b).1⟩, (rV5 L n b).2)
def goodV (x : Vr) : Prop := x.name.length ≤ 1000000 ∧ I64 x.t ∧ I64 x.n ∧ I64 x.area ∧ I64 x.init
/-- a number of one byte, and what stands behind it -/
theorem one_back {L T : List UInt8} {n : Nat} {z : Int} (hf : fitB z = true) (h : L.drop n = byteO z :: T) (hn : n ≤ L.length) : rNum L 1 n false = (z, n + 1, false) ∧ L.drop (n + 1) = T ∧ n + 1 ≤ L.length := by
  have h1 : L.drop n = [byteO z] ++ T := h
  have h2 := rNum_back h1 hn
  obtain ⟨d1, d2⟩ := drop_enc h1 hn
  rw [show [byteO z].length = 1 from rfl] at h2 d1 d2
  rw [byteO_fit hf] at h2
  exact ⟨h2, d1, d2⟩
theorem one_forth {L : List UInt8} {n : Nat} (hb : (rNum L 1 n false).2.2 = false) : fitB (rNum L 1 n false).1 = true ∧ (rNum L 1 n false).2.1 = n + 1 ∧ n + 1 ≤ L.length ∧ L.drop n = byteO (rNum L 1 n false).1 :: L.drop (n + 1) := by
  obtain ⟨h1, h2, h3, h4⟩ := rNum_forth hb
  obtain ⟨c, hc⟩ : ∃ c, (L.drop n).take 1 = [c] := ⟨_, take_one h1⟩
  rw [hc] at h2 h3
  obtain ⟨f1, f2⟩ := fit_byteO c
  rw [h2]
  exact ⟨f1, rfl, h1, by dsimp only; rw [f2]; exact h3⟩
theorem num_bad {L : List UInt8} {N n : Nat} {b : Bool} (h : (rNum L N n b).2.2 = false) : b = false := by
  cases b
  · rfl
  · rw [rNum_bad] at h; cases h
theorem readsV : Reads rVar varL varOk goodV where
  bad L n hn := by
    show (rV5 L n true).2.2 = true
    have e1 : (rV1 L n true).2.2 = true := by unfold rV1; rw [rText_bad]
    have e2 : (rV2 L n true).2.2 = true := by unfold rV2; rw [e1, rNum_bad]
    have e3 : (rV3 L n true).2.2 = true := by unfold rV3; rw [e2, rNum_bad]
    have e4 : (rV4 L n true).2.2 = true := by unfold rV4; rw [e3, rNum_bad]
    unfold rV5; rw [e4, rNum_bad]
  at' L n b hn := by
    obtain ⟨h1, h2⟩ := rText_at L n b hn
    obtain ⟨k1, k2⟩ := rNum_at L 1 (rV1 L n b).2.1 (rV1 L n b).2.2 h2
    obtain ⟨l1, l2⟩ := rNum_at L 1 (rV2 L n b).2.1 (rV2 L n b).2.2 k2
    obtain ⟨m1, m2⟩ := rNum_at L 1 (rV3 L n b).2.1 (rV3 L n b).2.2 l2
    obtain ⟨o1, o2⟩ := rNum_at L 8 (rV4 L n b).2.1 (rV4 L n b).2.2 m2
    exact ⟨Nat.le_trans h1 (Nat.le_trans k1 (Nat.le_trans l1 (Nat.le_trans m1 o1))), o2⟩
  fine L n b hn hL := ⟨by have := rText_len L n b; show (rText L n b).1.length ≤ _; omega, numV_in _, numV_in _, numV_in _, numV_in _⟩
  back L n x T hok hx h hn := by
    unfold varOk at hok
    rw [Bool.and_eq_true, Bool.and_eq_true, Bool.and_eq_true] at hok
    have hs : x.name.length ≤ 255 := of_decide_eq_true hok.1
    have hlen := varL_len x
    unfold varL at h
    rw [List.append_assoc] at h
    have h1 := rText_back h hn hs
    obtain ⟨d1, d2⟩ := drop_enc h hn
    have e1 : (UInt8.ofNat x.name.length :: x.name).length = 1 + x.name.length := by simp; omega
    rw [e1] at d1 d2
    obtain ⟨n1, hn1⟩ : ∃ n1, n + (1 + x.name.length) = n1 := ⟨_, rfl⟩
    rw [hn1] at h1 d1 d2
    obtain ⟨a1, a2, a3⟩ := one_back (T := byteO x.n :: byteO x.area :: (putL 8 x.init ++ T)) hok.2.1 (by rw [d1]; simp) d2
    obtain ⟨b1, b2, b3⟩ := one_back hok.2.2.1 a2 a3
    obtain ⟨c1, c2, c3⟩ := one_back hok.2.2.2 b2 b3
    have f1 := rNum_back c2 c3
    rw [putL_len, numV_put8' hx.2.2.2.2] at f1
    have g1 : rV1 L n false = (x.name, n1, false) := h1
    have g2 : rV2 L n false = (x.t, n1 + 1, false) := by unfold rV2; rw [g1]; exact a1
    have g3 : rV3 L n false = (x.n, n1 + 1 + 1, false) := by unfold rV3; rw [g2]; exact b1
    have g4 : rV4 L n false = (x.area, n1 + 1 + 1 + 1, false) := by unfold rV4; rw [g3]; exact c1
    have g5 : rV5 L n false = (x.init, n1 + 1 + 1 + 1 + 8, false) := by unfold rV5; rw [g4]; exact f1
    unfold rVar
    rw [g1, g2, g3, g4, g5, hlen]
    rw [show n1 + 1 + 1 + 1 + 8 = n + (x.name.length + 12) by omega]
  forth L n hn hb := by
    have hb5 : (rV5 L n false).2.2 = false := hb
    have hb4 : (rV4 L n false).2.2 = false := num_bad hb5
    have hb3 : (rV3 L n false).2.2 = false := num_bad hb4
    have hb2 : (rV2 L n false).2.2 = false := num_bad hb3
    have hb1 : (rV1 L n false).2.2 = false := num_bad hb2
    obtain ⟨h1, h2, h3⟩ := rText_forth hb1
    have hb2' := hb2
    unfold rV2 at hb2'
    rw [hb1] at hb2'
    obtain ⟨a1, a2, a3, a4⟩ := one_forth hb2'
    have g2 : rV2 L n false = rNum L 1 (rV1 L n false).2.1 false := by unfold rV2; rw [hb1]
    rw [← g2] at a1 a2 a4
    have hb3' := hb3
    unfold rV3 at hb3'
    rw [hb2] at hb3'
    obtain ⟨b1, b2, b3, b4⟩ := one_forth hb3'
    have g3 : rV3 L n false = rNum L 1 (rV2 L n false).2.1 false := by unfold rV3; rw [hb2]
    rw [← g3] at b1 b2 b4
    have hb4' := hb4
    unfold rV4 at hb4'
    rw [hb3] at hb4'
    obtain ⟨c1, c2, c3, c4⟩ := one_forth hb4'
    have g4 : rV4 L n false = rNum L 1 (rV3 L n false).2.1 false := by unfold rV4; rw [hb3]
    rw [← g4] at c1 c2 c4
    have hb5' := hb5
    unfold rV5 at hb5'
    rw [hb4] at hb5'
    obtain ⟨d1, d2, d3, d4⟩ := rNum_forth hb5'
    have g5 : rV5 L n false = rNum L 8 (rV4 L n false).2.1 false := by unfold rV5; rw [hb4]
    rw [← g5] at d2
    have hl1 : (rV1 L n false).1.length ≤ 255 := h1
    have e5 : (rVar L n false).2.1 = (rV4 L n false).2.1 + 8 := by show (rV5 L n false).2.1 = _; rw [d2]
    have ei : (rVar L n false).1.init = numV ((L.drop (rV4 L n false).2.1).take 8) := by show (rV5 L n false).1 = _; rw [d2]
    refine ⟨?_, ?_, ?_⟩
    · unfold varOk
      rw [Bool.and_eq_true, Bool.and_eq_true, Bool.and_eq_true]
      exact ⟨decide_eq_true hl1, a1, b1, c1⟩
    · unfold varL
      rw [ei, putL8_num d4, e5]
      show L.drop n = (UInt8.ofNat (rV1 L n false).1.length :: (rV1 L n false).1) ++ ([byteO (rV2 L n false).1, byteO (rV3 L n false).1, byteO (rV4 L n false).1] ++ (L.drop (rV4 L n false).2.1).take 8) ++ L.drop ((rV4 L n false).2.1 + 8)
      have k1 : L.drop (rV1 L n false).2.1 = byteO (rV2 L n false).1 :: (byteO (rV3 L n false).1 :: (byteO (rV4 L n false).1 :: ((L.drop (rV4 L n false).2.1).take 8 ++ L.drop ((rV4 L n false).2.1 + 8)))) := by
        rw [a4, ← a2, b4, ← b2, c4, ← c2, ← d3]
      have k0 : L.drop n = (UInt8.ofNat (rV1 L n false).1.length :: (rV1 L n false).1) ++ L.drop (rV1 L n false).2.1 := h2
      rw [k0, k1]
      simp
    · rw [e5, varL_len]
      show _ = n + ((rV1 L n false).1.length + 12)
      have h3' : (rV1 L n false).2.1 = n + (1 + (rV1 L n false).1.length) := h3
      omega
end Go.Proofs.Ytdpcfcflcfjmjaa
