/- Layer 5: what is called like a slot; a word behind 'end_'. -/
import Derived.Test.YthammifbpdoggaaDoorIdChar
namespace Go.Proofs.YthammifbpdoggaaDoor
open Go.RowKit
set_option linter.unusedSimpArgs false
set_option linter.unusedVariables false
theorem cN {c : UInt8} {n : Nat} (hn : c.toNat = n) (d : UInt8) : (c == d) = decide (n = d.toNat) := by
  by_cases h : c = d
  · subst h
    simp [hn]
  · have : ¬ n = d.toNat := fun e => h (by rw [← UInt8.toNat_inj, hn, e])
    rw [beq_eq_false_iff_ne.2 h, decide_eq_false this]
theorem tail_at {l : List UInt8} {k : Nat} (h : k + 1 < l.length) : l.tail[k]? = some (l.getD (k + 1) 0) := by
  cases l with
  | nil => simp at h
  | cons a t => simp at h; simp [h]
set_option maxHeartbeats 1000000 in
theorem ident_slotLike (l : List UInt8) (w : World) (hl : l.length ≤ 1000000) : Calls Tryd.prog 19 #[.string ⟨l.toArray⟩] w fun e w' => e = .returned (.bool (slotB l)) ∧ w' = w := by
  by_cases h2 : l.length < 2
  · have q1 : ((l.length : Int) < 2) = True := eq_true (by omega)
    have q1' : (l.length < 2) = True := eq_true h2
    have hs := Lib.hid (show slotB l = false by unfold slotB; rw [decide_eq_false (by omega)]; rfl)
    clear h2
    go_enter Tryd.func19, Tryd.ntmps19
    go_wp2_with fail
    go_ret
    exact ⟨by rw [hs.out]; rfl, rfl⟩
  have q1 : ((l.length : Int) < 2) = False := eq_false (by omega)
  have q1' : (l.length < 2) = False := eq_false h2
  have hI0 : ∀ W, (Instr.index 9 (.string ⟨l.toArray⟩) (.int .i64 0)).run Tryd.prog W = .ok (.int .u8 ((l.getD 0 0).toNat : Int)) W := fun W => idx_atI (k := 0) Tryd.underlying9 W (by omega)
  have HI := Lib.hid (fun (k : Nat) (h : k < l.length) W => idx_atI (P := Tryd.prog) (k := k) Tryd.underlying9 W h)
  have HT := Lib.hid (fun (k : Nat) (h : k + 1 < l.length) => tail_at h)
  have hD : slotB l = ((l.getD 0 0 == 112 || l.getD 0 0 == 108) && l.tail.all digitC) := by unfold slotB; rw [decide_eq_true (by omega)]; rfl
  have HTL := Lib.hid (show l.tail.length = l.length - 1 by simp)
  obtain ⟨n0, hn⟩ : ∃ n, (l.getD 0 0).toNat = n := ⟨_, rfl⟩
  rw [cN hn, cN hn] at hD
  have HD := Lib.hid (show slotB l = ((decide (n0 = 112) || decide (n0 = 108)) && l.tail.all digitC) from hD)
  rw [hn] at hI0
  clear hD hn
  by_cases hc : n0 = 112 ∨ n0 = 108
  · have HD2 := Lib.hid (show slotB l = l.tail.all digitC by rw [HD.out]; rcases hc with h | h <;> simp [h])
    have hcs : (((n0 : Int) != 112) = false) ∨ (((n0 : Int) != 112) = true ∧ ((n0 : Int) != 108) = false) := by
      rcases hc with h | h
      · exact Or.inl (by rw [h]; rfl)
      · exact Or.inr (by rw [h]; exact ⟨rfl, rfl⟩)
    have hl2 : 2 ≤ l.length := by omega
    clear HD h2 hc
    obtain ⟨N, hN⟩ : ∃ N, l.length = N := ⟨_, rfl⟩
    have HN := Lib.hid hN
    rw [hN] at hl q1 q1' hl2
    rcases hcs with h | ⟨h, h'⟩
    all_goals
      go_enter Tryd.func19, Tryd.ntmps19
      go_wp2_with fail
      go_loopw [3] (fun jj wr => ∃ k : Nat, 1 ≤ k ∧ k ≤ N ∧ jj = .int .i64 k ∧ Hid ((l.tail.take (k - 1)).all digitC = true) ∧ wr = w) (fun jj _ => N - (intOf jj).toNat)
      case atStart => exact ⟨1, by omega, by omega, rfl, Lib.hid (by simp), rfl⟩
      case round =>
        obtain ⟨k, hk1, hk, rfl, hall, rfl⟩ := hrel
        by_cases hlt : k < N
        · have qk : ((k : Int) < (N : Int)) = True := eq_true (by omega)
          have hI := HI.out k (by rw [HN.out]; exact hlt)
          have hx := HT.out (k - 1) (by rw [HN.out]; omega)
          rw [show k - 1 + 1 = k by omega] at hx
          have HX := Lib.hid hx
          have HTs := Lib.hid (take_snoc hx)
          obtain ⟨c, hcc⟩ : ∃ c, l.getD k 0 = c := ⟨_, rfl⟩
          have HCC := Lib.hid hcc
          rw [hcc] at hI
          have hdg := ident_digit c
          clear hx hcc
          cases hd : digitC c
          · rw [hd] at hdg
            have hno := Lib.hid (HD2.out.trans (List.all_eq_false.2 ⟨l.getD k 0, List.mem_of_getElem? HX.out, by rw [HCC.out, hd]; simp⟩))
            clear hd
            go_wp2_with fail
            refine (hdg _).mono ?_; rintro e w2 ⟨rfl, rfl⟩
            go_wp2_with fail
            go_ret
            exact ⟨by rw [hno.out]; rfl, rfl⟩
          · rw [hd] at hdg
            have hgood := Lib.hid (show (l.tail.take (k + 1 - 1)).all digitC = true by
              rw [show k + 1 - 1 = k - 1 + 1 by omega, HTs.out, List.all_append, hall.out, HCC.out]; simp [hd])
            clear hd
            go_wp2_with fail
            refine (hdg _).mono ?_; rintro e w2 ⟨rfl, rfl⟩
            go_wp2_with fail
            go_roundw
            case rel => exact ⟨k + 1, by omega, by omega, by simp, hgood, by first | rfl | trivial⟩
            case measure => first | (simp [intOf]; done) | (simp [intOf]; omega)
        · obtain rfl : k = N := by omega
          have qk : ((k : Int) < (k : Int)) = False := eq_false (by omega)
          have hyes := Lib.hid (show slotB l = true by rw [HD2.out]; have := hall.out; rwa [List.take_of_length_le (by rw [HTL.out, HN.out]; omega)] at this)
          go_wp2_with fail
          go_ret
          exact ⟨by rw [hyes.out]; rfl, rfl⟩
  · have hno := Lib.hid (show slotB l = false by
      rw [HD.out, decide_eq_false (fun h => hc (Or.inl h)), decide_eq_false (fun h => hc (Or.inr h))]; rfl)
    have r1 : ((n0 : Int) != 112) = true := by simp; omega
    have r2 : ((n0 : Int) != 108) = true := by simp; omega
    clear hc h2 HD
    go_enter Tryd.func19, Tryd.ntmps19
    go_wp2_with fail
    go_ret
    exact ⟨by rw [hno.out]; rfl, rfl⟩
theorem bytes_list (l : List UInt8) : (⟨l.toArray⟩ : ByteArray).toList = l := by
  first | simp | (rw [ByteArray.toList_eq]; simp)
theorem bytes_cut (l : List UInt8) (i j : Nat) : (⟨l.toArray⟩ : ByteArray).extract i j = ⟨((l.take j).drop i).toArray⟩ := by
  apply ByteArray.ext
  rw [ByteArray.data_extract]
  simp [List.extract_eq_take_drop, List.drop_take]
theorem lite_HasPrefix (l : List UInt8) (w : World) (hl : l.length ≤ 1000000) : Calls Tryd.prog 27 #[.string ⟨l.toArray⟩, .string ⟨#[101, 110, 100, 95]⟩] w fun e w' => e = .returned (.bool (decide (l.take 4 = endL))) ∧ w' = w := by
  by_cases h4 : 4 ≤ l.length
  · have q1 : (4 ≤ (l.length : Int)) = True := eq_true (by omega)
    go_enter Tryd.func27, Tryd.ntmps27
    go_wp2_with fail
    go_ret
    refine ⟨?_, rfl⟩
    have hb : (l.take 4 == [101, 110, 100, 95]) = decide (l.take 4 = endL) := by
      by_cases h : l.take 4 = endL
      · rw [decide_eq_true h, h]; rfl
      · rw [decide_eq_false h]; exact beq_eq_false_iff_ne.2 h
    refine Eq.trans ?_ (congrArg (fun b => Ending.returned (.bool b)) hb)
    first | rfl | (rw [bytes_cut, bytes_list]; rfl)
  · have q1 : (4 ≤ (l.length : Int)) = False := eq_false (by omega)
    go_enter Tryd.func27, Tryd.ntmps27
    go_wp2_with fail
    go_ret
    have hs : decide (l.take 4 = endL) = false := decide_eq_false (fun h => h4 (by have := congrArg List.length h; simp [endL] at this; omega))
    exact ⟨by rw [hs]; rfl, rfl⟩
theorem lite_TrimPrefix (l : List UInt8) (w : World) (hl : l.length ≤ 1000000) : Calls Tryd.prog 24 #[.string ⟨l.toArray⟩, .string ⟨#[101, 110, 100, 95]⟩] w fun e w' => e = .returned (.string ⟨(trimL l).toArray⟩) ∧ w' = w := by
  have HP := lite_HasPrefix l w hl
  by_cases h : l.take 4 = endL
  · rw [decide_eq_true h] at HP
    have h4 : 4 ≤ l.length := by have := congrArg List.length h; simp [endL] at this; omega
    have hs := Lib.hid (show trimL l = l.drop 4 from if_pos h)
    have q1 : (4 ≤ (l.length : Int)) = True := eq_true (by omega)
    clear h
    go_enter Tryd.func24, Tryd.ntmps24
    go_wp2_with fail
    refine HP.mono ?_; rintro e w2 ⟨rfl, rfl⟩
    go_wp2_with fail
    go_ret
    refine ⟨?_, rfl⟩
    rw [hs.out]
    first | rfl | (rw [bytes_cut, List.take_length]; rfl)
  · rw [decide_eq_false h] at HP
    have hs := Lib.hid (show trimL l = l from if_neg h)
    clear h
    go_enter Tryd.func24, Tryd.ntmps24
    go_wp2_with fail
    refine HP.mono ?_; rintro e w2 ⟨rfl, rfl⟩
    go_wp2_with fail
    go_ret
    exact ⟨by rw [hs.out]; rfl, rfl⟩
theorem strings_TrimPrefix (l : List UInt8) (w : World) (hl : l.length ≤ 1000000) : Calls Tryd.prog 18 #[.string ⟨l.toArray⟩, .string ⟨#[101, 110, 100, 95]⟩] w fun e w' => e = .returned (.string ⟨(trimL l).toArray⟩) ∧ w' = w := by
  go_enter Tryd.func18, Tryd.ntmps18
  go_wp2_with fail
  refine (lite_TrimPrefix l w hl).mono ?_; rintro e w2 ⟨rfl, rfl⟩
  go_wp2_with fail
  go_ret
  exact ⟨rfl, rfl⟩
end Go.Proofs.YthammifbpdoggaaDoor
