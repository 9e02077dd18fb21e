/- Counting on all ways up. Plain. -/
import Derived.Test.YtkjafkegkllbiaaPdG
namespace Go.Proofs.Ytkjafkegkllbiaa
set_option linter.unusedSimpArgs false
set_option linter.unusedVariables false
namespace DM
def addF : List Int → List Int → List Int
  | [], W => W
  | u :: us, W => addF us (W.set u.toNat (W.getD u.toNat 0 + 1))
def cntF : List (List Int) → List Int → List Int
  | [], W => W
  | L :: Ls, W => cntF Ls (addF L W)
theorem addF_len : ∀ {L W : List Int}, (addF L W).length = W.length
  | [], _ => rfl
  | u :: us, W => by unfold addF; rw [addF_len]; simp
theorem cntF_len : ∀ {Ls : List (List Int)} {W : List Int}, (cntF Ls W).length = W.length
  | [], _ => rfl
  | L :: Ls, W => by unfold cntF; rw [cntF_len, addF_len]
theorem getD_setN {L : List Int} {i p : Nat} {x : Int} (hi : i < L.length) : (L.set i x).getD p 0 = if p = i then x else L.getD p 0 := by
  rw [List.getD_eq_getElem?_getD, List.getD_eq_getElem?_getD, List.getElem?_set]
  by_cases h : i = p
  · subst h; simp [hi]
  · rw [if_neg h, if_neg (fun hh => h hh.symm)]
theorem addF_get {m : Nat} : ∀ {L W : List Int}, W.length = m → L.Nodup → (∀ x ∈ L, ∃ a : Nat, x = (a : Int) ∧ a < m) → ∀ a : Nat, (addF L W).getD a 0 = W.getD a 0 + if (a : Int) ∈ L then 1 else 0
  | [], W, _, _, _, a => by simp [addF]
  | u :: us, W, hW, hn, hb, a => by
    obtain ⟨b, rfl, hbm⟩ := hb u (by simp)
    have hn' := List.nodup_cons.1 hn
    unfold addF
    rw [addF_get (m := m) (by simpa using hW) hn'.2 (fun x hx => hb x (by simp [hx])), Int.toNat_natCast, getD_setN (by omega)]
    by_cases hab : a = b
    · subst hab
      rw [if_pos rfl, if_neg hn'.1, if_pos (by simp)]; omega
    · rw [if_neg hab]
      have : ((a : Int) ∈ (b : Int) :: us) ↔ (a : Int) ∈ us := by
        rw [List.mem_cons]
        exact ⟨fun h => by rcases h with h | h; omega; exact h, .inr⟩
      by_cases h : (a : Int) ∈ us
      · rw [if_pos h, if_pos (this.2 h)]
      · rw [if_neg h, if_neg (fun hh => h (this.1 hh))]
theorem cntF_get {m : Nat} : ∀ {Ls : List (List Int)} {W : List Int}, W.length = m → (∀ L ∈ Ls, L.Nodup ∧ ∀ x ∈ L, ∃ a : Nat, x = (a : Int) ∧ a < m) → ∀ a : Nat, (cntF Ls W).getD a 0 = W.getD a 0 + ((Ls.countP fun L => decide ((a : Int) ∈ L) : Nat) : Int)
  | [], W, _, _, a => by simp [cntF]
  | L :: Ls, W, hW, hb, a => by
    unfold cntF
    rw [cntF_get (m := m) (by rw [addF_len]; exact hW) (fun L hL => hb L (by simp [hL])), addF_get hW (hb L (by simp)).1 (hb L (by simp)).2, List.countP_cons]
    by_cases h : (a : Int) ∈ L
    · simp [h]; omega
    · simp [h]
/-- how far does the count go? -/
theorem cnt_all {m : Nat} {Ls : List (List Int)} (hb : ∀ L ∈ Ls, L.Nodup ∧ ∀ x ∈ L, ∃ a : Nat, x = (a : Int) ∧ a < m) (a : Nat) : ((cntF Ls (List.replicate m 0)).getD a 0 = (Ls.length : Int)) ↔ (Ls.all fun L => decide ((a : Int) ∈ L)) = true := by
  rw [cntF_get (m := m) (by simp) hb, List.all_eq_true]
  have h0 : (List.replicate m (0 : Int)).getD a 0 = 0 := by
    rw [List.getD_eq_getElem?_getD, List.getElem?_replicate]; split <;> rfl
  rw [h0]
  rw [show ((0 : Int) + ((Ls.countP fun L => decide ((a : Int) ∈ L) : Nat) : Int) = (Ls.length : Int)) ↔ (Ls.countP fun L => decide ((a : Int) ∈ L)) = Ls.length by omega]
  exact List.countP_eq_length
/-- the first that counts enough -/
def firstF (W : List Int) (k : Int) : List Int → Int
  | [] => -1
  | u :: us => if W.getD u.toNat 0 = k then u else firstF W k us
theorem first_met {m : Nat} {Ls : List (List Int)} (hb : ∀ L ∈ Ls, L.Nodup ∧ ∀ x ∈ L, ∃ a : Nat, x = (a : Int) ∧ a < m) (hne : Ls ≠ []) : firstF (cntF Ls (List.replicate m 0)) (Ls.length : Int) (Ls.headD []) = metF Ls := by
  have hm : ∀ us : List Int, (∀ x ∈ us, ∃ a : Nat, x = (a : Int) ∧ a < m) → firstF (cntF Ls (List.replicate m 0)) (Ls.length : Int) us = (us.find? fun x => Ls.all fun L => decide (x ∈ L)).getD (-1) := by
    intro us
    induction us with
    | nil => exact fun _ => rfl
    | cons u us ih =>
      intro h
      obtain ⟨a, rfl, _⟩ := h u (by simp)
      unfold firstF
      rw [List.find?_cons, Int.toNat_natCast]
      by_cases hc : (Ls.all fun L => decide ((a : Int) ∈ L)) = true
      · rw [if_pos ((cnt_all hb a).2 hc), hc]; rfl
      · rw [if_neg (fun hh => hc ((cnt_all hb a).1 hh)), ih (fun x hx => h x (by simp [hx]))]
        simp only [Bool.not_eq_true] at hc
        rw [hc]
  unfold metF
  cases Ls with
  | nil => exact absurd rfl hne
  | cons L t => exact hm _ (hb L (by simp)).2
end DM
end Go.Proofs.Ytkjafkegkllbiaa
