/- Layer 4: the contracts of the answer's number and Value. -/
import Derived.Test.YtddemhpmdmhdcaaDoorNumGuess
namespace Go.Proofs.YtddemhpmdmhdcaaDoor
open Go.RowKit
set_option linter.unusedSimpArgs false
set_option linter.unusedVariables false
theorem cutB_at {M : List UInt8} {k : Nat} (hk : k < M.length) (h : ¬ (35 : UInt8) ∈ M.take k) (hc : M.getD k 0 = 35) : cutB M = M.drop (k + 1) := by
  have e : M = M.take k ++ 35 :: M.drop (k + 1) := by
    have h1 : M.drop k = M[k] :: M.drop (k + 1) := List.drop_eq_getElem_cons hk
    have h2 : M[k] = 35 := by rw [← hc]; simp [List.getD, hk]
    rw [h2] at h1
    rw [← h1, List.take_append_drop]
  have h3 := (cut_at (M.take k) (M.drop (k + 1)) (fun c hc h => hc |> fun hc => by subst h; exact absurd hc (by assumption))).2
  rw [← e] at h3
  exact h3
theorem slice_mid {P : Program} {t : TypeId} (ht : P.underlying t = some .string) {l M : List UInt8} {k e : Nat} (hM : M = l.take (l.length - e)) (hk : k + 1 ≤ M.length) (W : World) :
    (Instr.slice t (.string ⟨l.toArray⟩) (some (.int .i64 ((k : Int) + 1))) (some (.int .i64 ((l.length : Int) - e))) none).run P W = .ok (.string ⟨(M.drop (k + 1)).toArray⟩) W := by
  have hl : M.length = l.length - e := by rw [hM]; simp
  rw [run_slice_string W t ⟨l.toArray⟩ .i64 .i64 _ _ ht (by omega) (by omega) (by rw [show (⟨l.toArray⟩ : ByteArray).size = l.length from List.size_toArray]; omega)]
  have h1 : ((k : Int) + 1).toNat = k + 1 := by omega
  have h2 : ((l.length : Int) - e).toNat = l.length - e := by omega
  rw [h1, h2]
  congr 2
  apply ByteArray.ext
  subst hM
  simp
  exact List.drop_take.symm
set_option maxHeartbeats 1000000 in
theorem ref04_number (l : List UInt8) (e : Nat) (he : e ≤ 2) (hl : (l.length : Int) ≤ 9223372036854775807) (w : World) : Calls Tryd.prog 19 #[.string ⟨l.toArray⟩, .int .i64 e] w fun e' w' => e' = .returned (.int .i64 (nmb l e)) ∧ w = w' := by
  obtain ⟨M, hM⟩ : ∃ M, M = l.take (l.length - e) := ⟨_, rfl⟩
  have hml : M.length = l.length - e := by rw [hM]; simp
  have hnb := Lib.hid (show nmb l e = gn (cutB M) by rw [hM]; rfl)
  go_enter Tryd.func19, Tryd.ntmps19
  go_wp2_with fail
  go_loopw [5] (fun j wr => ∃ k : Nat, k ≤ M.length ∧ j = .int .i64 k ∧ Hid (¬ (35 : UInt8) ∈ M.take k) ∧ w = wr) (fun j _ => M.length - (intOf j).toNat)
  case atStart => exact ⟨0, by omega, rfl, Lib.hid (by simp), rfl⟩
  case round =>
    obtain ⟨k, hk, rfl, hno, rfl⟩ := hrel
    by_cases hlt : k < M.length
    · have hix : ∀ W, (Instr.index 9 (.string ⟨l.toArray⟩) (.int .i64 k)).run Tryd.prog W = .ok (.int .u8 ((l.getD k 0).toNat : Int)) W := fun W => idx_at Tryd.underlying9 W (by omega)
      have hsl := slice_mid (P := Tryd.prog) Tryd.underlying9 (e := e) hM (k := k) (by omega)
      have hgd : l.getD k 0 = M.getD k 0 := by rw [hM]; simp only [List.getD, List.getElem?_take]; rw [if_pos (by omega)]
      have hnn : ((k : Int) < (l.length : Int) - e) = True := eq_true (by omega)
      by_cases hc : l.getD k 0 = 35
      · have hcut := Lib.hid (cutB_at hlt hno.out (by rw [← hgd]; exact hc))
        have hdl : (M.drop (k + 1)).length ≤ M.length := by simp
        have h35 : (((l.getD k 0).toNat : Int) == 35) = true := by rw [hc]; rfl
        clear hgd hc
        generalize M.drop (k + 1) = D at *
        generalize l.getD k 0 = c at *
        clear hM
        go_wp2_with fail
        refine (ref04_Parse D (by omega) _).mono ?_; rintro e w1 ⟨rfl, rfl⟩
        go_wp2_with fail
        go_ret
        exact ⟨by rw [hnb.out, hcut.out]; rfl, rfl⟩
      · have h35 : (((l.getD k 0).toNat : Int) == 35) = false := by
          have : (l.getD k 0).toNat ≠ 35 := fun h => hc (UInt8.toNat_inj.1 h)
          exact beq_eq_false_iff_ne.2 (by omega)
        have hst := Lib.hid (take_step hlt)
        have hne := Lib.hid (show M.getD k 0 ≠ 35 by rw [← hgd]; exact hc)
        clear hgd hc hM
        generalize l.getD k 0 = c at *
        go_wp2_with fail
        go_roundw
        case rel => exact ⟨k + 1, by omega, by simp, Lib.hid (by
          rw [hst.out]
          intro hm
          rcases List.mem_append.1 hm with hm | hm
          · exact hno.out hm
          · exact hne.out (List.mem_singleton.1 hm).symm), trivial⟩
        case measure => first | (simp [intOf]; done) | (simp [intOf]; omega)
    · obtain rfl : k = M.length := by omega
      have hz : nmb l e = 0 := by
        rw [hnb.out]
        have h1 := hno.out
        rw [List.take_length] at h1
        have : cutB M = [] := (cut_out h1).2.1
        rw [this, gn_nil]
      have hZ := Lib.hid hz
      have hnn : (((M.length : Nat) : Int) < (l.length : Int) - e) = False := eq_false (by omega)
      clear hz hM
      go_wp2_with fail
      go_ret
      exact ⟨by rw [hZ.out]; rfl, rfl⟩
theorem nil_iff {l : List UInt8} : l = [] ↔ (l == []) = true := by cases l <;> simp
theorem v_hit {l : List UInt8} {t : Int} (hl : l ≠ []) (h : (lit t (refV l t) == l) = true) : v1 l = t ∧ v2 l = refV l t ∧ isLit l = true := by
  obtain ⟨h1, h2⟩ := hit_yes hl (by simpa using h)
  obtain ⟨h3, h4⟩ := v_yes h1
  rw [h2] at h3 h4
  exact ⟨h3, h4, h1⟩
theorem refV_6 (l : List UInt8) : nmb l 2 = refV l 6 := by unfold refV; rw [if_neg (by simp), if_pos rfl]
theorem refV_1 {l : List UInt8} (h : l = sTRUE) : 1 = refV l 1 := by unfold refV; rw [if_pos ⟨rfl, h⟩]
theorem refV_0 {l : List UInt8} (h : ¬ l = sTRUE) : nmb l 0 = refV l 1 := by unfold refV; rw [if_neg (fun k => h k.2), if_neg (by decide)]
theorem refV_m {l : List UInt8} {t : Int} (h1 : t ≠ 1) (h6 : t ≠ 6) : nmb l 0 = refV l t := by unfold refV; rw [if_neg (fun k => h1 k.1), if_neg h6]
set_option maxHeartbeats 2000000 in
theorem ref04_Value (l : List UInt8) (hl : (l.length : Int) ≤ 9223372036854775807) (w : World) : Calls Tryd.prog 12 #[.string ⟨l.toArray⟩] w fun e w' => e = .returned (.tuple #[.int .i64 (v1 l), .int .i64 (v2 l), .bool (isLit l)]) ∧ Below w.heap.size w w' := by
  go_enter Tryd.func12, Tryd.ntmps12
  go_wp2_with fail
  go_loopw [5] (fun j wr => ∃ t : Nat, t ≤ 7 ∧ 1 ≤ t ∧ j = .int .i64 t ∧ Hid (∀ s : Int, 1 ≤ s → s < t → l = [] ∨ lit s (refV l s) ≠ l) ∧ Below w.heap.size w wr) (fun j _ => 7 - (intOf j).toNat)
  case atStart => exact ⟨1, by omega, by omega, rfl, Lib.hid (fun s h1 h2 => by omega), Below.refl _ _⟩
  case round =>
    obtain ⟨t, ht, ht1, rfl, hno, hB⟩ := hrel
    by_cases h7 : t < 7
    · by_cases h6 : t = 6
      · subst h6
        go_wp2_with fail
        refine (ref04_number l 0 (by omega) hl _).mono ?_; rintro e w1 ⟨rfl, rfl⟩

        go_wp2_with fail
        refine (ref04_number l 2 (by omega) hl _).mono ?_; rintro e w1 ⟨rfl, rfl⟩
        rw [refV_6]

        have HR := Lib.hid (refV_range l 6)
        have hh := v_hit (l := l) (t := 6)
        have HH := Lib.hid hh
        clear hh
        by_cases hn : l = []
        · have HM := Lib.hid (show l = [] ∨ lit 6 (refV l 6) ≠ l from Or.inl hn)
          have hbn := beqs_yes hn
          clear hn
          generalize hvv : refV l 6 = v at *
          have HVV := Lib.hid hvv
          clear hvv
          go_wp2_with fail
          go_roundw
          case rel => exact ⟨6 + 1, by omega, by omega, by simp, Lib.hid (fun s h1 h2 => by
            rcases (show s < 6 ∨ s = 6 by omega) with h3 | h3
            · exact hno.out s h1 (by omega)
            · subst h3; rw [HVV.out]; exact HM.out), hB⟩
          case measure => first | (simp [intOf]; done) | (simp [intOf]; omega)
        · have hbn := beqs_no hn
          cases hm : (lit 6 (refV l 6) == l)
          · have HM := Lib.hid (show l = [] ∨ lit 6 (refV l 6) ≠ l from Or.inr (by simpa using hm))
            clear hn
            generalize hvv : refV l 6 = v at *
            have HVV := Lib.hid hvv
            clear hvv
            have hls := litS_list 6 v
            go_wp2_with fail
            refine (ref04_Literal 6 v HR.out _).mono ?_; rintro e w2 ⟨rfl, hb2⟩
            have hB2 := hB.trans (hb2.mono hB.size)
            go_wp2_with fail
            go_roundw
            case rel => exact ⟨6 + 1, by omega, by omega, by simp, Lib.hid (fun s h1 h2 => by
              rcases (show s < 6 ∨ s = 6 by omega) with h3 | h3
              · exact hno.out s h1 (by omega)
              · subst h3; rw [HVV.out]; exact HM.out), hB2⟩
            case measure => first | (simp [intOf]; done) | (simp [intOf]; omega)
          · obtain ⟨q1, q2, q3⟩ := HH.out hn hm
            have Q1 := Lib.hid q1
            have Q2 := Lib.hid q2
            have Q3 := Lib.hid q3
            clear hn q1 q2 q3 HH
            generalize hvv : refV l 6 = v at *
            have HVV := Lib.hid hvv
            clear hvv
            have hls := litS_list 6 v
            go_wp2_with fail
            refine (ref04_Literal 6 v HR.out _).mono ?_; rintro e w2 ⟨rfl, hb2⟩
            have hB2 := hB.trans (hb2.mono hB.size)
            go_wp2_with fail
            go_returns
            exact ⟨by rw [Q1.out, Q2.out, Q3.out]; rfl, hB2⟩
      · by_cases h1 : t = 1
        · subst h1
          by_cases hT : l = sTRUE
          · have hb := beqs_yes hT
            unfold sTRUE at hb
            have HV1 := Lib.hid (refV_1 hT)
            clear hT
            go_wp2_with fail
            refine (ref04_number l 0 (by omega) hl _).mono ?_; rintro e w1 ⟨rfl, rfl⟩
            
            have HR := Lib.hid (refV_range l 1)
            have hh := v_hit (l := l) (t := 1)
            have HH := Lib.hid hh
            clear hh
            by_cases hn : l = []
            · have HM := Lib.hid (show l = [] ∨ lit 1 (refV l 1) ≠ l from Or.inl hn)
              have hbn := beqs_yes hn
              clear hn
              generalize hvv : refV l 1 = v at *
              have HVV := Lib.hid hvv
              clear hvv
              obtain rfl := HV1.out
              go_wp2_with fail
              go_roundw
              case rel => exact ⟨1 + 1, by omega, by omega, by simp, Lib.hid (fun s h1 h2 => by
                rcases (show s < 1 ∨ s = 1 by omega) with h3 | h3
                · exact hno.out s h1 (by omega)
                · subst h3; rw [HVV.out]; exact HM.out), hB⟩
              case measure => first | (simp [intOf]; done) | (simp [intOf]; omega)
            · have hbn := beqs_no hn
              cases hm : (lit 1 (refV l 1) == l)
              · have HM := Lib.hid (show l = [] ∨ lit 1 (refV l 1) ≠ l from Or.inr (by simpa using hm))
                clear hn
                generalize hvv : refV l 1 = v at *
                have HVV := Lib.hid hvv
                clear hvv
                obtain rfl := HV1.out
                have hls := litS_list 1 1
                go_wp2_with fail
                refine (ref04_Literal 1 1 HR.out _).mono ?_; rintro e w2 ⟨rfl, hb2⟩
                have hB2 := hB.trans (hb2.mono hB.size)
                go_wp2_with fail
                go_roundw
                case rel => exact ⟨1 + 1, by omega, by omega, by simp, Lib.hid (fun s h1 h2 => by
                  rcases (show s < 1 ∨ s = 1 by omega) with h3 | h3
                  · exact hno.out s h1 (by omega)
                  · subst h3; rw [HVV.out]; exact HM.out), hB2⟩
                case measure => first | (simp [intOf]; done) | (simp [intOf]; omega)
              · obtain ⟨q1, q2, q3⟩ := HH.out hn hm
                have Q1 := Lib.hid q1
                have Q2 := Lib.hid q2
                have Q3 := Lib.hid q3
                clear hn q1 q2 q3 HH
                generalize hvv : refV l 1 = v at *
                have HVV := Lib.hid hvv
                clear hvv
                obtain rfl := HV1.out
                have hls := litS_list 1 1
                go_wp2_with fail
                refine (ref04_Literal 1 1 HR.out _).mono ?_; rintro e w2 ⟨rfl, hb2⟩
                have hB2 := hB.trans (hb2.mono hB.size)
                go_wp2_with fail
                go_returns
                exact ⟨by rw [Q1.out, Q2.out, Q3.out]; rfl, hB2⟩
          · have hb := beqs_no hT
            unfold sTRUE at hb
            have HV1 := Lib.hid (refV_0 hT)
            clear hT
            go_wp2_with fail
            refine (ref04_number l 0 (by omega) hl _).mono ?_; rintro e w1 ⟨rfl, rfl⟩
            rw [HV1.out]

            have HR := Lib.hid (refV_range l 1)
            have hh := v_hit (l := l) (t := 1)
            have HH := Lib.hid hh
            clear hh
            by_cases hn : l = []
            · have HM := Lib.hid (show l = [] ∨ lit 1 (refV l 1) ≠ l from Or.inl hn)
              have hbn := beqs_yes hn
              clear hn
              generalize hvv : refV l 1 = v at *
              have HVV := Lib.hid hvv
              clear hvv
              go_wp2_with fail
              go_roundw
              case rel => exact ⟨1 + 1, by omega, by omega, by simp, Lib.hid (fun s h1 h2 => by
                rcases (show s < 1 ∨ s = 1 by omega) with h3 | h3
                · exact hno.out s h1 (by omega)
                · subst h3; rw [HVV.out]; exact HM.out), hB⟩
              case measure => first | (simp [intOf]; done) | (simp [intOf]; omega)
            · have hbn := beqs_no hn
              cases hm : (lit 1 (refV l 1) == l)
              · have HM := Lib.hid (show l = [] ∨ lit 1 (refV l 1) ≠ l from Or.inr (by simpa using hm))
                clear hn
                generalize hvv : refV l 1 = v at *
                have HVV := Lib.hid hvv
                clear hvv
                have hls := litS_list 1 v
                go_wp2_with fail
                refine (ref04_Literal 1 v HR.out _).mono ?_; rintro e w2 ⟨rfl, hb2⟩
                have hB2 := hB.trans (hb2.mono hB.size)
                go_wp2_with fail
                go_roundw
                case rel => exact ⟨1 + 1, by omega, by omega, by simp, Lib.hid (fun s h1 h2 => by
                  rcases (show s < 1 ∨ s = 1 by omega) with h3 | h3
                  · exact hno.out s h1 (by omega)
                  · subst h3; rw [HVV.out]; exact HM.out), hB2⟩
                case measure => first | (simp [intOf]; done) | (simp [intOf]; omega)
              · obtain ⟨q1, q2, q3⟩ := HH.out hn hm
                have Q1 := Lib.hid q1
                have Q2 := Lib.hid q2
                have Q3 := Lib.hid q3
                clear hn q1 q2 q3 HH
                generalize hvv : refV l 1 = v at *
                have HVV := Lib.hid hvv
                clear hvv
                have hls := litS_list 1 v
                go_wp2_with fail
                refine (ref04_Literal 1 v HR.out _).mono ?_; rintro e w2 ⟨rfl, hb2⟩
                have hB2 := hB.trans (hb2.mono hB.size)
                go_wp2_with fail
                go_returns
                exact ⟨by rw [Q1.out, Q2.out, Q3.out]; rfl, hB2⟩
        · have e6 : (((t : Int)) == 6) = false := beq_eq_false_iff_ne.2 (by omega)
          have e1 : (((t : Int)) == 1) = false := beq_eq_false_iff_ne.2 (by omega)
          have HV1 := Lib.hid (refV_m (l := l) (t := t) (by omega) (by omega))
          clear h6 h1
          go_wp2_with fail
          refine (ref04_number l 0 (by omega) hl _).mono ?_; rintro e w1 ⟨rfl, rfl⟩
          rw [HV1.out]

          have HR := Lib.hid (refV_range l (t : Int))
          have hh := v_hit (l := l) (t := (t : Int))
          have HH := Lib.hid hh
          clear hh
          by_cases hn : l = []
          · have HM := Lib.hid (show l = [] ∨ lit (t : Int) (refV l (t : Int)) ≠ l from Or.inl hn)
            have hbn := beqs_yes hn
            clear hn
            generalize hvv : refV l (t : Int) = v at *
            have HVV := Lib.hid hvv
            clear hvv
            go_wp2_with fail
            go_roundw
            case rel => exact ⟨t + 1, by omega, by omega, by simp, Lib.hid (fun s h1 h2 => by
              rcases (show s < (t : Int) ∨ s = (t : Int) by omega) with h3 | h3
              · exact hno.out s h1 (by omega)
              · subst h3; rw [HVV.out]; exact HM.out), hB⟩
            case measure => first | (simp [intOf]; done) | (simp [intOf]; omega)
          · have hbn := beqs_no hn
            cases hm : (lit (t : Int) (refV l (t : Int)) == l)
            · have HM := Lib.hid (show l = [] ∨ lit (t : Int) (refV l (t : Int)) ≠ l from Or.inr (by simpa using hm))
              clear hn
              generalize hvv : refV l (t : Int) = v at *
              have HVV := Lib.hid hvv
              clear hvv
              have hls := litS_list (t : Int) v
              go_wp2_with fail
              refine (ref04_Literal (t : Int) v HR.out _).mono ?_; rintro e w2 ⟨rfl, hb2⟩
              have hB2 := hB.trans (hb2.mono hB.size)
              go_wp2_with fail
              go_roundw
              case rel => exact ⟨t + 1, by omega, by omega, by simp, Lib.hid (fun s h1 h2 => by
                rcases (show s < (t : Int) ∨ s = (t : Int) by omega) with h3 | h3
                · exact hno.out s h1 (by omega)
                · subst h3; rw [HVV.out]; exact HM.out), hB2⟩
              case measure => first | (simp [intOf]; done) | (simp [intOf]; omega)
            · obtain ⟨q1, q2, q3⟩ := HH.out hn hm
              have Q1 := Lib.hid q1
              have Q2 := Lib.hid q2
              have Q3 := Lib.hid q3
              clear hn q1 q2 q3 HH
              generalize hvv : refV l (t : Int) = v at *
              have HVV := Lib.hid hvv
              clear hvv
              have hls := litS_list (t : Int) v
              go_wp2_with fail
              refine (ref04_Literal (t : Int) v HR.out _).mono ?_; rintro e w2 ⟨rfl, hb2⟩
              have hB2 := hB.trans (hb2.mono hB.size)
              go_wp2_with fail
              go_returns
              exact ⟨by rw [Q1.out, Q2.out, Q3.out]; rfl, hB2⟩
    · obtain rfl : t = 7 := by omega
      have hi : isLit l = false := by
        by_cases hn : l = []
        · rw [hn]; exact isLit_nil
        · exact hit_no (fun s h1 h2 => (hno.out s h1 (by omega)).resolve_left hn)
      obtain ⟨q1, q2⟩ := v_no hi
      have Q1 := Lib.hid q1
      have Q2 := Lib.hid q2
      have HI := Lib.hid hi
      clear hi q1 q2
      go_wp2_with fail
      go_returns
      exact ⟨by rw [Q1.out, Q2.out, HI.out]; rfl, hB⟩
end Go.Proofs.YtddemhpmdmhdcaaDoor
