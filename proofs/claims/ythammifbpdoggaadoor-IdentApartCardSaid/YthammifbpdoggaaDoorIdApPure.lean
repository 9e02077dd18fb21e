/- Layer 5: the names that are made are names, no two alike, and stay (lists). -/
import Derived.Test.YthammifbpdoggaaDoorIdUniq
namespace Go.Proofs.YthammifbpdoggaaDoor
open Go.RowKit
set_option linter.unusedSimpArgs false
set_option linter.unusedVariables false
theorem words_plain : ∀ w ∈ wordsL, (95 : UInt8) ∉ w := by decide
theorem alone_plain : ∀ w ∈ aloneL, (95 : UInt8) ∉ w := by decide
theorem words_last : ∀ w ∈ wordsL, ∃ c, w.getLast? = some c ∧ smallC c = true := by decide
theorem words_some : ∀ w ∈ wordsL, w ≠ [] := by decide
theorem dec_digit {n : Nat} (h : n < 100) : (Lib.decDigits n).all digitC = true := by
  by_cases h1 : n < 10
  · rw [Lib.decDigits_one h1]
    have : digitC (UInt8.ofNat (48 + n)) = true := decide_eq_true (by simp only [UInt8.toNat_ofNat']; omega)
    show (digitC _ && true) = true
    rw [this]
    rfl
  · rw [Lib.decDigits_two h1 h]
    have a : digitC (UInt8.ofNat (48 + n / 10)) = true := decide_eq_true (by simp only [UInt8.toNat_ofNat']; omega)
    have b : digitC (UInt8.ofNat (48 + n % 10)) = true := decide_eq_true (by simp only [UInt8.toNat_ofNat']; omega)
    show (digitC _ && (digitC _ && true)) = true
    rw [a, b]
    rfl
theorem dec_some {n : Nat} (h : n < 100) : ∃ c, (Lib.decDigits n).getLast? = some c ∧ digitC c = true := by
  have hd := dec_digit h
  have hne : Lib.decDigits n ≠ [] := by
    by_cases h1 : n < 10
    · rw [Lib.decDigits_one h1]; simp
    · rw [Lib.decDigits_two h1 h]; simp
  refine ⟨_, List.getLast?_eq_some_getLast hne, ?_⟩
  exact List.all_eq_true.1 hd _ (List.getLast_mem hne)
theorem digit_not_small {c : UInt8} (h : digitC c = true) : smallC c = false := by
  have h1 := of_decide_eq_true h
  exact decide_eq_false (by omega)
theorem right_parts {s : List UInt8} (h : rightB s = true) : 1 ≤ s.length ∧ s.length ≤ 16 ∧ smallC (s.getD 0 0) = true ∧ s.all signC = true ∧ takenB s = false := by
  unfold rightB at h
  simp only [Bool.and_eq_true, decide_eq_true_eq, Bool.not_eq_true'] at h
  exact ⟨h.1.1, h.1.2, h.2.1, h.2.2.1, h.2.2.2⟩
/-- a name with a number behind it is a name -/
theorem right_name {s : List UInt8} (h : rightB s = true) {n : Nat} (hn : n < 100) : rightB (nameL s n) = true := by
  obtain ⟨h1, h2, h3, h4, h5⟩ := right_parts h
  obtain ⟨c, t, rfl⟩ : ∃ c t, s = c :: t := by
    cases s with
    | nil => simp at h1
    | cons c t => exact ⟨c, t, rfl⟩
  have hd := dec_digit hn
  have he : nameL (c :: t) n = c :: (t.take 11 ++ [95] ++ Lib.decDigits n) := by unfold nameL; simp
  have hmem : (95 : UInt8) ∈ t.take 11 ++ [95] ++ Lib.decDigits n := by simp
  have hlen := name_len (c :: t) hn
  have hsg : (nameL (c :: t) n).all signC = true := by
    unfold nameL
    rw [List.all_append, List.all_append]
    have a : ((c :: t).take 12).all signC = true := List.all_eq_true.2 fun x hx => List.all_eq_true.1 h4 x (List.mem_of_mem_take hx)
    have b : (Lib.decDigits n).all signC = true := List.all_eq_true.2 fun x hx => by
      have := List.all_eq_true.1 hd x hx
      unfold signC
      rw [this]
      simp
    rw [a, b]
    rfl
  have htk : takenB (nameL (c :: t) n) = false := by
    unfold takenB
    have e1 : aloneL.any (fun w => nameL (c :: t) n == w) = false := by
      rw [List.any_eq_false]
      intro w hw e
      have e := eq_of_beq e
      exact alone_plain w hw (e ▸ (by rw [he]; exact List.mem_cons_of_mem _ hmem))
    have e2 : wordsL.any (fun w => nameL (c :: t) n == w || nameL (c :: t) n == endL ++ w) = false := by
      rw [List.any_eq_false]
      intro w hw e
      rcases Bool.or_eq_true_iff.1 e with e | e
      · have e := eq_of_beq e
        exact words_plain w hw (e ▸ (by rw [he]; exact List.mem_cons_of_mem _ hmem))
      · have e := eq_of_beq e
        obtain ⟨d, hd1, hd2⟩ := dec_some hn
        obtain ⟨x, hx1, hx2⟩ := words_last w hw
        have l1 : (nameL (c :: t) n).getLast? = some d := by unfold nameL; rw [List.getLast?_append, hd1]; rfl
        have l2 : (endL ++ w).getLast? = some x := by rw [List.getLast?_append, hx1]; rfl
        rw [e, l2] at l1
        obtain rfl : x = d := by simpa using l1
        rw [digit_not_small hd2] at hx2
        cases hx2
    have e3 : slotB (nameL (c :: t) n) = false := by
      unfold slotB
      have : (nameL (c :: t) n).tail.all digitC = false := by
        rw [he]
        exact List.all_eq_false.2 ⟨95, hmem, by decide⟩
      rw [this]
      simp
    rw [e1, e2, e3]
    rfl
  unfold rightB
  rw [htk, hsg, he]
  have h3 : smallC c = true := h3
  rw [decide_eq_true (by rw [← he]; rw [he]; simp; rw [he] at hlen; simp at hlen; omega)]
  show (true && (smallC c && (true && !false))) = true
  rw [h3]
  rfl
theorem right_stays {s : List UInt8} (h : rightB s = true) : cleanL s = s := by unfold cleanL; rw [if_pos h]
theorem uniqK_right (L : List (List UInt8)) (hL : L.length ≤ 40) : ∀ k, k ≤ L.length → ∀ x ∈ uniqK L k, rightB x = true
  | 0, _ => fun x hx => by cases hx
  | k + 1, hk => by
    intro x hx
    rw [uniqK_succ hk] at hx
    unfold uniqS at hx
    rcases List.mem_append.1 hx with hx | hx
    · exact uniqK_right L hL k (by omega) x hx
    · obtain rfl := List.mem_singleton.1 hx
      split
      · refine right_name (right_clean _) ?_
        have := free_spec (C := L.map cleanL) (O := uniqK L k) (cleanL (L.getD k [])) (by rw [List.length_map, uniqK_len L k (by omega)]; omega)
        omega
      · exact right_clean _
theorem uniqK_nodup (L : List (List UInt8)) (hL : L.length ≤ 40) : ∀ k, k ≤ L.length → (uniqK L k).Nodup
  | 0, _ => List.nodup_nil
  | k + 1, hk => by
    rw [uniqK_succ hk]
    unfold uniqS
    rw [List.nodup_append]
    refine ⟨uniqK_nodup L hL k (by omega), by simp, ?_⟩
    intro a ha b hb
    obtain rfl := List.mem_singleton.1 hb
    rintro rfl
    split at ha
    · have h3 := (free_spec (C := L.map cleanL) (O := uniqK L k) (cleanL (L.getD k [])) (by rw [List.length_map, uniqK_len L k (by omega)]; omega)).2.2.1
      unfold busyB at h3
      rw [Bool.or_eq_false_iff] at h3
      rw [List.contains_iff_mem.2 ha] at h3
      cases h3.1
    · rename_i hc
      exact hc (List.contains_iff_mem.2 ha)
theorem uniq_again (A : List (List UInt8)) (hr : ∀ x ∈ A, rightB x = true) (hn : A.Nodup) : ∀ k, k ≤ A.length → uniqK A k = A.take k
  | 0, _ => by simp [uniqK_zero]
  | k + 1, hk => by
    have hk' : k < A.length := hk
    have hx : A.getD k [] = A[k] := by simp [List.getD, hk']
    rw [uniqK_succ hk', uniq_again A hr hn k (by omega), hx, right_stays (hr _ (List.getElem_mem hk'))]
    unfold uniqS
    rw [if_neg ?_, List.take_succ_eq_append_getElem hk']
    rw [List.contains_iff_mem]
    intro hm
    have hs : (A.take k ++ [A[k]]).Nodup := by
      rw [← List.take_succ_eq_append_getElem hk']
      exact List.Nodup.sublist (List.take_sublist _ _) hn
    rw [List.nodup_append] at hs
    exact hs.2.2 _ hm _ (List.mem_singleton.2 rfl) rfl
theorem uniq_uniq (L : List (List UInt8)) (hL : L.length ≤ 40) : uniqL (uniqL L) = uniqL L := by
  have hlen : (uniqL L).length = L.length := uniqK_len L _ (Nat.le_refl _)
  have := uniq_again (uniqL L) (uniqK_right L hL _ (Nat.le_refl _)) (uniqK_nodup L hL _ (Nat.le_refl _)) (uniqL L).length (Nat.le_refl _)
  rw [List.take_length] at this
  exact this
end Go.Proofs.YthammifbpdoggaaDoor
