/- Layer 4: the contract of the answer's Parse. -/
import Derived.Test.YtmjhjcfjgefdiaaDoorNumParse
namespace Go.Proofs.YtmjhjcfjgefdiaaDoor
open Go.RowKit
set_option linter.unusedSimpArgs false
set_option linter.unusedVariables false
def bd (l : List UInt8) (k : Nat) : List UInt8 := if isNeg l then (l.take k).tail else l.take k
theorem bd_all (l : List UInt8) {k : Nat} (h : k = l.length) : bd l k = body l := by
  subst h
  unfold bd body isNeg
  rw [List.take_length]
  by_cases hh : l.head? = some 45
  · rw [if_pos (by simpa using hh), if_pos hh]
  · rw [if_neg (by simpa using hh), if_neg hh]
theorem bd_step {l : List UInt8} {k : Nat} (hk : k < l.length) (h : isNeg l = true → 0 < k) : bd l (k + 1) = bd l k ++ [l.getD k 0] := by
  unfold bd
  rw [take_step hk]
  by_cases hn : isNeg l = true
  · rw [if_pos hn, if_pos hn]
    have h0 := h hn
    cases l with
    | nil => simp at hk
    | cons c t => cases k with
      | zero => omega
      | succ k => simp
  · rw [if_neg hn, if_neg hn]
theorem bd_zero (l : List UInt8) : bd l 0 = [] := by unfold bd; split <;> simp
theorem bd_one (l : List UInt8) (h : isNeg l = true) : bd l 1 = [] := by
  unfold bd; rw [if_pos h]
  cases l <;> simp
theorem mem_body {l : List UInt8} {k : Nat} (hk : k < l.length) (h : isNeg l = true → 0 < k) : l.getD k 0 ∈ body l := by
  have h1 : l.getD k 0 ∈ bd l (k + 1) := by rw [bd_step hk h]; simp
  rw [← bd_all l rfl]
  unfold bd at *
  split at h1
  · rename_i hn
    rw [if_pos hn, List.take_length]
    cases l with
    | nil => simp at hk
    | cons c t =>
      simp at h1 ⊢
      exact List.mem_of_mem_take h1
  · rename_i hn
    rw [if_neg hn, List.take_length]
    exact List.mem_of_mem_take h1
theorem pr_long {l : List UInt8} (h : 20 < l.length) {n : Int} (hn : -9223372036854775808 ≤ n ∧ n ≤ 9223372036854775807) : (pr n == l) = false := by
  rw [beq_eq_false_iff_ne]
  intro he
  have := pr_len hn
  rw [he] at this; omega
theorem idx_at {P : Program} {t : TypeId} (ht : P.underlying t = some .string) {l : List UInt8} {k : Nat} (W : World) (h : k < l.length) : (Instr.index t (.string ⟨l.toArray⟩) (.int .i64 k)).run P W = .ok (.int .u8 ((l.getD k 0).toNat : Int)) W := by
  have h2 : 0 ≤ (k : Int) ∧ (k : Int) < ((⟨l.toArray⟩ : ByteArray).size : Int) := ⟨by omega, by rw [show (⟨l.toArray⟩ : ByteArray).size = l.length from List.size_toArray]; omega⟩
  rw [run_index_string W t _ _ _ ht, dif_pos h2]
  have h3 : (⟨l.toArray⟩ : ByteArray)[(k : Int).toNat]'(by have := h2.2; omega) = l.getD k 0 := by
    show l.toArray[(k : Int).toNat]'_ = _
    simp [List.getD, h]
  rw [h3]
theorem wrap64_rg (x : Int) : -9223372036854775808 ≤ wrap64 x ∧ wrap64 x ≤ 9223372036854775807 := by unfold wrap64; omega
set_option maxHeartbeats 1000000 in
theorem ref04_Parse (l : List UInt8) (hl : (l.length : Int) ≤ 9223372036854775807) (w : World) : Calls Tryd.prog 25 #[.string ⟨l.toArray⟩] w fun e w' => e = .returned (.tuple #[.int .i64 (gn l), .bool (isNum l)]) ∧ w = w' := by
  go_enter Tryd.func25, Tryd.ntmps25
  go_wp2_with fail
  go_loopw [4, 5, 6] (fun x m j wr => ∃ k : Nat, k ≤ l.length ∧ k ≤ 20 ∧ j = .int .i64 k ∧ m = .bool (isNeg l && decide (0 < k)) ∧ x = .int .u64 (vz (bd l k)) ∧ w = wr) (fun _ _ j _ => 20 - (intOf j).toNat)
  case atStart => exact ⟨0, by omega, by omega, rfl, by simp, by rw [bd_zero]; rfl, rfl⟩
  case round =>
    obtain ⟨k, hk, hk2, rfl, rfl, rfl, rfl⟩ := hrel
    obtain ⟨v1, v2⟩ := vz_bd (bd l k)
    by_cases hlt : k < l.length
    · by_cases hlt2 : k < 20
      · cases hneg : isNeg l
        · by_cases hk0 : k = 0
          · have hc45 : (((l.getD k 0).toNat : Int) == 45) = false := by
              subst hk0
              cases l with
              | nil => simp at hlt
              | cons c t =>
                rw [isNeg_cons] at hneg
                have hne : c ≠ 45 := by simpa using hneg
                have : c.toNat ≠ 45 := fun h => hne (UInt8.toNat_inj.1 h)
                simp; omega
            have hkz : ((k : Int) == 0) = true := by simp; omega
            clear hk0
            have hix : ∀ W, (Instr.index 9 (.string ⟨l.toArray⟩) (.int .i64 k)).run Tryd.prog W = .ok (.int .u8 ((l.getD k 0).toNat : Int)) W := fun W => idx_at Tryd.underlying9 W hlt
            have hmem := mem_body (l := l) hlt (fun h => by first | omega | (rw [hneg] at h; cases h))
            by_cases h48 : 48 ≤ (l.getD k 0).toNat
            · have hge : (((l.getD k 0).toNat : Int) < 48) = False := eq_false (by omega)
              by_cases h57 : (l.getD k 0).toNat ≤ 57
              · have hgt : (57 < ((l.getD k 0).toNat : Int)) = False := eq_false (by omega)
                have hs := Lib.hid (by have := vz_snoc (bd l k) (l.getD k 0) h48; rw [← bd_step (l := l) hlt (fun h => by first | omega | (rw [hneg] at h; cases h))] at this; exact this)
                clear h48 h57 hmem
                generalize l.getD k 0 = c at *
                generalize vz (bd l k) = x at *
                go_wp2_with fail
                go_roundw
                case rel => exact ⟨k + 1, by omega, by omega, by simp, by simp <;> omega, by rw [hs.out, kw_u64, kw_u64, kw_u64, kw_u64]; congr 1; omega, trivial⟩
                case measure => simp [intOf]; omega
              · have hn := isNum_bad (l := l) hmem (fun h => h57 h.2)
                have Hg := Lib.hid (gn_no hn)
                have Hn := Lib.hid hn
                have hgt : (57 < ((l.getD k 0).toNat : Int)) = True := eq_true (by omega)
                clear h48 h57 hmem hn
                generalize l.getD k 0 = c at *
                generalize vz (bd l k) = x at *
                go_wp2_with fail
                go_returns
                exact ⟨by rw [Hn.out, Hg.out]; rfl, rfl⟩
            · have hn := isNum_bad (l := l) hmem (fun h => h48 h.1)
              have Hg := Lib.hid (gn_no hn)
              have Hn := Lib.hid hn
              have hge : (((l.getD k 0).toNat : Int) < 48) = True := eq_true (by omega)
              clear h48 hmem hn
              generalize l.getD k 0 = c at *
              generalize vz (bd l k) = x at *
              go_wp2_with fail
              go_returns
              exact ⟨by rw [Hn.out, Hg.out]; rfl, rfl⟩
          · have hkz : ((k : Int) == 0) = false := by simp; omega
            have hix : ∀ W, (Instr.index 9 (.string ⟨l.toArray⟩) (.int .i64 k)).run Tryd.prog W = .ok (.int .u8 ((l.getD k 0).toNat : Int)) W := fun W => idx_at Tryd.underlying9 W hlt
            have hmem := mem_body (l := l) hlt (fun h => by first | omega | (rw [hneg] at h; cases h))
            by_cases h48 : 48 ≤ (l.getD k 0).toNat
            · have hge : (((l.getD k 0).toNat : Int) < 48) = False := eq_false (by omega)
              by_cases h57 : (l.getD k 0).toNat ≤ 57
              · have hgt : (57 < ((l.getD k 0).toNat : Int)) = False := eq_false (by omega)
                have hs := Lib.hid (by have := vz_snoc (bd l k) (l.getD k 0) h48; rw [← bd_step (l := l) hlt (fun h => by first | omega | (rw [hneg] at h; cases h))] at this; exact this)
                clear h48 h57 hmem
                generalize l.getD k 0 = c at *
                generalize vz (bd l k) = x at *
                go_wp2_with fail
                go_roundw
                case rel => exact ⟨k + 1, by omega, by omega, by simp, by simp <;> omega, by rw [hs.out, kw_u64, kw_u64, kw_u64, kw_u64]; congr 1; omega, trivial⟩
                case measure => simp [intOf]; omega
              · have hn := isNum_bad (l := l) hmem (fun h => h57 h.2)
                have Hg := Lib.hid (gn_no hn)
                have Hn := Lib.hid hn
                have hgt : (57 < ((l.getD k 0).toNat : Int)) = True := eq_true (by omega)
                clear h48 h57 hmem hn
                generalize l.getD k 0 = c at *
                generalize vz (bd l k) = x at *
                go_wp2_with fail
                go_returns
                exact ⟨by rw [Hn.out, Hg.out]; rfl, rfl⟩
            · have hn := isNum_bad (l := l) hmem (fun h => h48 h.1)
              have Hg := Lib.hid (gn_no hn)
              have Hn := Lib.hid hn
              have hge : (((l.getD k 0).toNat : Int) < 48) = True := eq_true (by omega)
              clear h48 hmem hn
              generalize l.getD k 0 = c at *
              generalize vz (bd l k) = x at *
              go_wp2_with fail
              go_returns
              exact ⟨by rw [Hn.out, Hg.out]; rfl, rfl⟩
        · by_cases hk0 : k = 0
          · subst hk0
            have hc45 : (((l.getD 0 0).toNat : Int) == 45) = true := by
              cases l with
              | nil => simp at hlt
              | cons c t =>
                rw [isNeg_cons] at hneg
                obtain rfl : c = 45 := by simpa using hneg
                rfl
            have hix : ∀ W, (Instr.index 9 (.string ⟨l.toArray⟩) (.int .i64 0)).run Tryd.prog W = .ok (.int .u8 ((l.getD 0 0).toNat : Int)) W := fun W => idx_at (k := 0) Tryd.underlying9 W hlt
            have H1 := Lib.hid (bd_one l hneg)
            rw [bd_zero] at *
            have hv0 : vz [] = 0 := rfl
            generalize l.getD 0 0 = c at *
            go_wp2_with fail
            go_roundw
            case rel => exact ⟨1, by omega, by omega, by simp, by simp, by rw [H1.out], trivial⟩
            case measure => simp [intOf]
          · have hkz : ((k : Int) == 0) = false := by simp; omega
            have hm : (true && decide (0 < k)) = true := by simp; omega
            have hix : ∀ W, (Instr.index 9 (.string ⟨l.toArray⟩) (.int .i64 k)).run Tryd.prog W = .ok (.int .u8 ((l.getD k 0).toNat : Int)) W := fun W => idx_at Tryd.underlying9 W hlt
            have hmem := mem_body (l := l) hlt (fun h => by first | omega | (rw [hneg] at h; cases h))
            by_cases h48 : 48 ≤ (l.getD k 0).toNat
            · have hge : (((l.getD k 0).toNat : Int) < 48) = False := eq_false (by omega)
              by_cases h57 : (l.getD k 0).toNat ≤ 57
              · have hgt : (57 < ((l.getD k 0).toNat : Int)) = False := eq_false (by omega)
                have hs := Lib.hid (by have := vz_snoc (bd l k) (l.getD k 0) h48; rw [← bd_step (l := l) hlt (fun h => by first | omega | (rw [hneg] at h; cases h))] at this; exact this)
                clear h48 h57 hmem
                generalize l.getD k 0 = c at *
                generalize vz (bd l k) = x at *
                go_wp2_with fail
                go_roundw
                case rel => exact ⟨k + 1, by omega, by omega, by simp, by simp <;> omega, by rw [hs.out, kw_u64, kw_u64, kw_u64, kw_u64]; congr 1; omega, trivial⟩
                case measure => simp [intOf]; omega
              · have hn := isNum_bad (l := l) hmem (fun h => h57 h.2)
                have Hg := Lib.hid (gn_no hn)
                have Hn := Lib.hid hn
                have hgt : (57 < ((l.getD k 0).toNat : Int)) = True := eq_true (by omega)
                clear h48 h57 hmem hn
                generalize l.getD k 0 = c at *
                generalize vz (bd l k) = x at *
                go_wp2_with fail
                go_returns
                exact ⟨by rw [Hn.out, Hg.out]; rfl, rfl⟩
            · have hn := isNum_bad (l := l) hmem (fun h => h48 h.1)
              have Hg := Lib.hid (gn_no hn)
              have Hn := Lib.hid hn
              have hge : (((l.getD k 0).toNat : Int) < 48) = True := eq_true (by omega)
              clear h48 hmem hn
              generalize l.getD k 0 = c at *
              generalize vz (bd l k) = x at *
              go_wp2_with fail
              go_returns
              exact ⟨by rw [Hn.out, Hg.out]; rfl, rfl⟩
      · obtain rfl : k = 20 := by omega
        cases hneg : isNeg l
        · have hm : (false && decide (0 < 20)) = false := rfl
          have Hin := Lib.hid (isNum_long (l := l) (by omega))
          have Hg := Lib.hid (gn_no Hin.out)
          generalize vz (bd l 20) = x at *
          obtain ⟨n, hn⟩ : ∃ n, wrap64 x = n := ⟨_, rfl⟩
          have hpr := wrap64_rg (x)
          rw [hn] at hpr
          have hpl := prS_list n
          have hq := pr_long (l := l) (by omega) hpr
          go_wp2_with fail
          refine (ref04_Print n hpr _).mono ?_; rintro e w2 ⟨rfl, rfl⟩
          go_wp2_with fail
          go_returns
          exact ⟨by rw [Hg.out, Hin.out]; rfl, rfl⟩
        · have hm : (true && decide (0 < 20)) = true := rfl
          have Hin := Lib.hid (isNum_long (l := l) (by omega))
          have Hg := Lib.hid (gn_no Hin.out)
          generalize vz (bd l 20) = x at *
          obtain ⟨n, hn⟩ : ∃ n, wrap64 (IntKind.u64.wrap (-x)) = n := ⟨_, rfl⟩
          have hpr := wrap64_rg (IntKind.u64.wrap (-x))
          rw [hn] at hpr
          have hpl := prS_list n
          have hq := pr_long (l := l) (by omega) hpr
          go_wp2_with fail
          refine (ref04_Print n hpr _).mono ?_; rintro e w2 ⟨rfl, rfl⟩
          go_wp2_with fail
          go_returns
          exact ⟨by rw [Hg.out, Hin.out]; rfl, rfl⟩
    · obtain rfl : k = l.length := by omega
      rw [bd_all l rfl] at *
      have HV := Lib.hid (show vz (body l) = (vl (body l) : Int) % 18446744073709551616 from rfl)
      cases hneg : isNeg l
      · have hm : (false && decide (0 < l.length)) = false := rfl
        rw [hm]
        have HN := Lib.hid (show pv l = if isNeg l then wi (-(vl (body l) : Int)) else wi (vl (body l)) from rfl)
        rw [hneg] at HN
        have hpv : wrap64 (vz (body l)) = pv l := by rw [HN.out, HV.out]; simp [wi, wrap64]
        have hpr := pv_range l
        obtain ⟨n, hn⟩ : ∃ n, pv l = n := ⟨_, rfl⟩
        rw [hn] at hpv hpr
        have HPV := Lib.hid hn
        have hpl := prS_list n
        clear hn
        generalize vz (body l) = x at *
        go_wp2_with fail
        refine (ref04_Print n hpr _).mono ?_; rintro e w2 ⟨rfl, rfl⟩
        cases hin : isNum l
        · have Hg := Lib.hid (gn_no hin)
          have hq : (pr (pv l) == l) = false := hin
          rw [HPV.out] at hq
          have Hin := Lib.hid hin
          clear hin
          go_wp2_with fail
          go_returns
          exact ⟨by rw [Hg.out, Hin.out]; rfl, rfl⟩
        · have Hg := Lib.hid (gn_yes hin)
          have hq : (pr (pv l) == l) = true := hin
          rw [HPV.out] at hq Hg
          have Hin := Lib.hid hin
          have HW := Lib.hid hpv
          clear hin
          go_wp2_with fail
          go_returns
          exact ⟨by rw [Hg.out, Hin.out, ← HW.out]; rfl, rfl⟩
      · have hm : (true && decide (0 < l.length)) = true := by
          cases l with
          | nil => simp [isNeg] at hneg
          | cons c t => simp
        rw [hm]
        have HN := Lib.hid (show pv l = if isNeg l then wi (-(vl (body l) : Int)) else wi (vl (body l)) from rfl)
        rw [hneg] at HN
        have hpv : wrap64 (IntKind.u64.wrap (-(vz (body l)))) = pv l := by rw [HN.out, HV.out, kw_u64]; simp [wi, wrap64]; omega
        have hpr := pv_range l
        obtain ⟨n, hn⟩ : ∃ n, pv l = n := ⟨_, rfl⟩
        rw [hn] at hpv hpr
        have HPV := Lib.hid hn
        have hpl := prS_list n
        clear hn
        generalize vz (body l) = x at *
        go_wp2_with fail
        refine (ref04_Print n hpr _).mono ?_; rintro e w2 ⟨rfl, rfl⟩
        cases hin : isNum l
        · have Hg := Lib.hid (gn_no hin)
          have hq : (pr (pv l) == l) = false := hin
          rw [HPV.out] at hq
          have Hin := Lib.hid hin
          clear hin
          go_wp2_with fail
          go_returns
          exact ⟨by rw [Hg.out, Hin.out]; rfl, rfl⟩
        · have Hg := Lib.hid (gn_yes hin)
          have hq : (pr (pv l) == l) = true := hin
          rw [HPV.out] at hq Hg
          have Hin := Lib.hid hin
          have HW := Lib.hid hpv
          clear hin
          go_wp2_with fail
          go_returns
          exact ⟨by rw [Hg.out, Hin.out, ← HW.out]; rfl, rfl⟩
end Go.Proofs.YtmjhjcfjgefdiaaDoor
