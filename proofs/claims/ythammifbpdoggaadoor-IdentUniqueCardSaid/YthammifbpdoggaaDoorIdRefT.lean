/- Layer 5: the answer's look at the words that are taken. -/
import Derived.Test.YthammifbpdoggaaDoorIdRefW
namespace Go.Proofs.YthammifbpdoggaaDoor
open Go.RowKit
set_option linter.unusedSimpArgs false
set_option linter.unusedVariables false
theorem len_word (k : Nat) : (wordsL.getD k []).length ≤ 1000 := by
  have h : ∀ w ∈ wordsL, w.length ≤ 1000 := by decide
  by_cases hk : k < wordsL.length
  · rw [List.getD_eq_getElem?_getD, List.getElem?_eq_getElem hk]
    exact h _ (List.getElem_mem hk)
  · rw [List.getD_eq_getElem?_getD, List.getElem?_eq_none (by omega)]
    exact Nat.zero_le _
theorem end_cat (x : List UInt8) : ((⟨#[101, 110, 100, 95]⟩ : ByteArray) ++ ⟨x.toArray⟩).toList = [101, 110, 100, 95] ++ x := by
  have : ((⟨#[101, 110, 100, 95]⟩ : ByteArray) ++ ⟨x.toArray⟩) = ⟨([101, 110, 100, 95] ++ x).toArray⟩ := ByteArray.mk_append_mk ..
  rw [this, bytes_list]
set_option maxHeartbeats 4000000 in
theorem ref05_Taken (l : List UInt8) (w : World) (hl : l.length ≤ 1000000) : Calls Tryd.prog 11 #[.string ⟨l.toArray⟩] w fun e w' => e = .returned (.bool (takenB l)) ∧ Below w.heap.size w w' := by
  have HW := ref05_words w
  have HD := Lib.hid (show takenB l = (aloneL.any (fun w => l == w) || (wordsL.any (fun w => l == w || l == endL ++ w) || slotB l)) from rfl)
  by_cases hal : aloneL.any (fun w => l == w) = true
  · have HY := Lib.hid (show takenB l = true by rw [HD.out, hal]; rfl)
    clear HD
    have hq : ((l == [115]) = true) ∨ ((l == [115]) = false ∧ (l == [114]) = true) ∨ ((l == [115]) = false ∧ (l == [114]) = false ∧ (l == [116, 114, 117, 101]) = true) ∨ ((l == [115]) = false ∧ (l == [114]) = false ∧ (l == [116, 114, 117, 101]) = false ∧ (l == [102, 97, 108, 115, 101]) = true) := by
      have h : ((l == [115]) || ((l == [114]) || ((l == [116, 114, 117, 101]) || ((l == [102, 97, 108, 115, 101]) || false)))) = true := hal
      cases h1 : l == [115] <;> cases h2 : l == [114] <;> cases h3 : l == [116, 114, 117, 101] <;> cases h4 : l == [102, 97, 108, 115, 101] <;> simp_all
    clear hal
    rcases hq with h1 | ⟨h1, h2⟩ | ⟨h1, h2, h3⟩ | ⟨h1, h2, h3, h4⟩
    all_goals
      go_enter Tryd.func11, Tryd.ntmps11
      go_wp2_with fail
      go_returns
      exact ⟨by rw [HY.out]; rfl, Below.refl _ _⟩
  · obtain ⟨h1, h2, h3, h4⟩ : (l == [115]) = false ∧ (l == [114]) = false ∧ (l == [116, 114, 117, 101]) = false ∧ (l == [102, 97, 108, 115, 101]) = false := by
      have h : ((l == [115]) || ((l == [114]) || ((l == [116, 114, 117, 101]) || ((l == [102, 97, 108, 115, 101]) || false)))) = false := Bool.eq_false_iff.2 hal
      cases h1 : l == [115] <;> cases h2 : l == [114] <;> cases h3 : l == [116, 114, 117, 101] <;> cases h4 : l == [102, 97, 108, 115, 101] <;> simp_all
    have HD1 := Lib.hid (show takenB l = (wordsL.any (fun w => l == w || l == endL ++ w) || slotB l) by rw [HD.out, Bool.eq_false_iff.2 hal]; rfl)
    clear hal HD
    go_enter Tryd.func11, Tryd.ntmps11
    go_wp2_with fail
    refine HW.mono ?_; rintro e w1 ⟨rfl, hr, hb⟩
    have HR := Lib.hid (fun (k : Nat) (h : k < 40) => (show w1.cell? ⟨w.heap.size, k, none⟩ = some (.string ⟨(wordsL.getD k []).toArray⟩) by
      have := hr k _ (by rw [← List.getElem?_toArray]; exact idWordsV_at h)
      rwa [Nat.zero_add] at this))
    have HB := Lib.hid hb
    clear hr hb HW
    clear h1 h2 h3 h4
    go_wp2_with fail
    go_loopw [4] (fun j wr => ∃ k : Nat, k ≤ 40 ∧ j = .int .i64 k ∧ Hid (∀ j, j < k → (l == wordsL.getD j [] || l == endL ++ wordsL.getD j []) = false) ∧ wr = w1) (fun j _ => 40 - (intOf j).toNat)
    case atStart => exact ⟨0, by omega, rfl, Lib.hid (fun j h => by omega), rfl⟩
    case round =>
      obtain ⟨k, hk, rfl, hno, rfl⟩ := hrel
      by_cases h38 : k < 40
      · have hc := HR.out k h38
        have hsum : (9223372036854775807 < 4 + (wordsL.getD k []).length) = False := eq_false (by have := len_word k; omega)
        have qk : ((k : Int) < 40) = True := eq_true (by omega)
        have HN := Lib.hid (fun (h : (l == wordsL.getD k [] || l == endL ++ wordsL.getD k []) = true) => show takenB l = true by rw [HD1.out, any_one (p := fun w => l == w || l == endL ++ w) (L := wordsL) (k := k) h38 h]; rfl)
        generalize hx : wordsL.getD k [] = x at *
        have HX := Lib.hid hx
        clear hx
        cases h5 : (l == x)
        · cases h6 : (l == [101, 110, 100, 95] ++ x)
          · have h6' : (l == (⟨#[101, 110, 100, 95]⟩ ++ ⟨x.toArray⟩ : ByteArray).toList) = false := by rw [end_cat]; exact h6
            have HB2 := Lib.hid (show (l == x || l == endL ++ x) = false by rw [h5, Bool.false_or]; exact h6)
            go_wp2_with fail
            go_roundw
            case rel => exact ⟨k + 1, by omega, by simp, Lib.hid (fun j hj => by
              rcases (show j < k ∨ j = k by omega) with h3 | h3
              · exact hno.out j h3
              · rw [h3, HX.out]; exact HB2.out), trivial⟩
            case measure => first | (simp [intOf]; done) | (simp [intOf]; omega)
          · have h6' : (l == (⟨#[101, 110, 100, 95]⟩ ++ ⟨x.toArray⟩ : ByteArray).toList) = true := by rw [end_cat]; exact h6
            have HY := Lib.hid (HN.out (by rw [h5, Bool.false_or]; exact h6))
            go_wp2_with fail
            go_returns
            exact ⟨by rw [HY.out]; rfl, HB.out⟩
        · have HY := Lib.hid (HN.out (by rw [h5, Bool.true_or]))
          go_wp2_with fail
          go_returns
          exact ⟨by rw [HY.out]; rfl, HB.out⟩
      · obtain rfl : k = 40 := by omega
        have HD2 := Lib.hid (show takenB l = slotB l by rw [HD1.out, any_none (p := fun w => l == w || l == endL ++ w) (L := wordsL) rfl hno.out]; rfl)
        by_cases h2 : l.length < 2
        · have q1 : ((l.length : Int) < 2) = True := eq_true (by omega)
          have q1' : (l.length < 2) = True := eq_true h2
          have hs := Lib.hid (show takenB l = false by rw [HD2.out]; unfold slotB; rw [decide_eq_false (by omega)]; rfl)
          clear h2
          go_wp2_with fail
          go_returns
          exact ⟨by rw [hs.out]; rfl, HB.out⟩
        have q1 : ((l.length : Int) < 2) = False := eq_false (by omega)
        have q1' : (l.length < 2) = False := eq_false h2
        have hI0 : ∀ W, (Instr.index 9 (.string ⟨l.toArray⟩) (.int .i64 0)).run Tryd.prog W = .ok (.int .u8 ((l.getD 0 0).toNat : Int)) W := fun W => idx_atI (k := 0) Tryd.underlying9 W (by omega)
        have HI := Lib.hid (fun (k : Nat) (h : k < l.length) W => idx_atI (P := Tryd.prog) (k := k) Tryd.underlying9 W h)
        have HT := Lib.hid (fun (k : Nat) (h : k + 1 < l.length) => tail_at h)
        have hD : takenB l = ((l.getD 0 0 == 112 || l.getD 0 0 == 108) && l.tail.all digitC) := by rw [HD2.out]; unfold slotB; rw [decide_eq_true (by omega)]; rfl
        have HTL := Lib.hid (show l.tail.length = l.length - 1 by simp)
        obtain ⟨n0, hn⟩ : ∃ n, (l.getD 0 0).toNat = n := ⟨_, rfl⟩
        rw [cN hn, cN hn] at hD
        have HD3 := Lib.hid (show takenB l = ((decide (n0 = 112) || decide (n0 = 108)) && l.tail.all digitC) from hD)
        rw [hn] at hI0
        clear hD hn
        by_cases hc : n0 = 112 ∨ n0 = 108
        · have HD4 := Lib.hid (show takenB l = l.tail.all digitC by rw [HD3.out]; rcases hc with h | h <;> simp [h])
          have hcs : (((n0 : Int) != 112) = false) ∨ (((n0 : Int) != 112) = true ∧ ((n0 : Int) != 108) = false) := by
            rcases hc with h | h
            · exact Or.inl (by rw [h]; rfl)
            · exact Or.inr (by rw [h]; exact ⟨rfl, rfl⟩)
          have hl2 : 2 ≤ l.length := by omega
          clear HD3 h2 hc
          obtain ⟨N, hN⟩ : ∃ N, l.length = N := ⟨_, rfl⟩
          have HN := Lib.hid hN
          rw [hN] at hl q1 q1' hl2
          rcases hcs with h | ⟨h, h'⟩
          all_goals
            go_wp2_with fail
            go_loopw [5] (fun jj W => ∃ k : Nat, 1 ≤ k ∧ k ≤ N ∧ jj = .int .i64 k ∧ Hid ((l.tail.take (k - 1)).all digitC = true) ∧ W = wr) (fun jj _ => N - (intOf jj).toNat)
            case atStart => exact ⟨1, by omega, by omega, rfl, Lib.hid (by simp), rfl⟩
            case round =>
              obtain ⟨k, hk1, hk, rfl, hall, rfl⟩ := hrel
              by_cases hlt : k < N
              · have qk : ((k : Int) < (N : Int)) = True := eq_true (by omega)
                have hI := HI.out k (by rw [HN.out]; exact hlt)
                have hx := HT.out (k - 1) (by rw [HN.out]; omega)
                rw [show k - 1 + 1 = k by omega] at hx
                have HX := Lib.hid hx
                have HTs := Lib.hid (take_snoc hx)
                obtain ⟨c, hcc⟩ : ∃ c, l.getD k 0 = c := ⟨_, rfl⟩
                have HCC := Lib.hid hcc
                rw [hcc] at hI
                clear hx hcc
                by_cases hd : digitC c = true
                · have hgood := Lib.hid (show (l.tail.take (k + 1 - 1)).all digitC = true by
                    rw [show k + 1 - 1 = k - 1 + 1 by omega, HTs.out, List.all_append, hall.out, HCC.out]; simp [hd])
                  have hd2 := of_decide_eq_true hd
                  have r1 : ((c.toNat : Int) < 48) = False := eq_false (by omega)
                  have r1' : (c.toNat < 48) = False := eq_false (by omega)
                  have r2 : (57 < (c.toNat : Int)) = False := eq_false (by omega)
                  have r2' : (57 < c.toNat) = False := eq_false (by omega)
                  clear hd hd2
                  generalize c.toNat = n at *
                  go_wp2_with fail
                  go_roundw
                  case rel => exact ⟨k + 1, by omega, by omega, by simp, hgood, by first | rfl | trivial⟩
                  case measure => first | (simp [intOf]; done) | (simp [intOf]; omega)
                · have hno := Lib.hid (HD4.out.trans (List.all_eq_false.2 ⟨l.getD k 0, List.mem_of_getElem? HX.out, by rw [HCC.out]; exact hd⟩))
                  have hd2 : c.toNat < 48 ∨ ¬ c.toNat < 48 ∧ 57 < c.toNat := by
                    have h3 : ¬ (48 ≤ c.toNat ∧ c.toNat ≤ 57) := fun h => hd (decide_eq_true h)
                    omega
                  clear hd
                  generalize c.toNat = n at *
                  rcases hd2 with h5 | ⟨h5, h6⟩
                  · have r1 : ((n : Int) < 48) = True := eq_true (by omega)
                    have r1' : (n < 48) = True := eq_true h5
                    clear h5
                    go_wp2_with fail
                    go_returns
                    exact ⟨by rw [hno.out]; rfl, HB.out⟩
                  · have r1 : ((n : Int) < 48) = False := eq_false (by omega)
                    have r1' : (n < 48) = False := eq_false h5
                    have r2 : (57 < (n : Int)) = True := eq_true (by omega)
                    have r2' : (57 < n) = True := eq_true h6
                    clear h5 h6
                    go_wp2_with fail
                    go_returns
                    exact ⟨by rw [hno.out]; rfl, HB.out⟩
              · obtain rfl : k = N := by omega
                have qk : ((k : Int) < (k : Int)) = False := eq_false (by omega)
                have hyes := Lib.hid (show takenB l = true by rw [HD4.out]; have := hall.out; rwa [List.take_of_length_le (by rw [HTL.out, HN.out]; omega)] at this)
                go_wp2_with fail
                go_returns
                exact ⟨by rw [hyes.out]; rfl, HB.out⟩
        · have hno := Lib.hid (show takenB l = false by
            rw [HD3.out, decide_eq_false (fun h => hc (Or.inl h)), decide_eq_false (fun h => hc (Or.inr h))]; rfl)
          have r1 : ((n0 : Int) != 112) = true := by simp; omega
          have r2 : ((n0 : Int) != 108) = true := by simp; omega
          clear hc h2 HD3
          go_wp2_with fail
          go_returns
          exact ⟨by rw [hno.out]; rfl, HB.out⟩
end Go.Proofs.YthammifbpdoggaaDoor
