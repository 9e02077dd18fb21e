/- Contracts of alu (layer 7) and of its answer: Un, Conv; the answer's Bin. -/
import Derived.Test.YthikfdhgkpakpaaDoorAluMore
namespace Go.Proofs.YthikfdhgkpakpaaDoor
open Go.RowKit
theorem aGoes_neg {t : Int} (h : aGoes 13 t = true) : t = 2 ∨ t = 3 ∨ t = 6 := by unfold aGoes at h; have := of_decide_eq_true h; omega
theorem aGoes_not {t : Int} (h : aGoes 17 t = true) : t = 1 ∨ t = 4 ∨ t = 5 := by unfold aGoes at h; have := of_decide_eq_true h; omega
theorem kIn_bd {t a : Int} (h : kIn t a = true) (ht : 1 ≤ t ∧ t ≤ 5) : kLow t ≤ a ∧ a ≤ kHigh t := by
  rw [kIn_yes (by omega), kWrap_in ht] at h
  exact of_decide_eq_true h
def aUn (op t a : Int) : Int × Bool :=
  if ((op = 13 ∨ op = 17) ∧ aGoes op t = true ∧ kIn t a = true) then ((if op = 13 then kWrap t (wrap64 (-a)) else kHigh t - a), true) else (0, false)
theorem i64_not (a : Int) (h0 : 0 ≤ a) (h1 : a ≤ 4294967295) : bits .xor .i64 (-1) a = -1 - a := by
  obtain ⟨k, rfl⟩ : ∃ k : Nat, a = k := ⟨a.toNat, by omega⟩
  have e1 : BitVec.ofInt 64 (-1) = BitVec.allOnes 64 := by decide
  show IntKind.i64.wrap ((BitVec.ofInt 64 (-1) ^^^ BitVec.ofInt 64 (k : Int)).toNat : Int) = _
  rw [e1, BitVec.allOnes_xor, BitVec.toNat_not, BitVec.ofInt_natCast, BitVec.toNat_ofNat, IntKind.wrap_i64]
  omega
theorem alu_Un (op t a : Int) (w : World) (hg : AGoes w) : Calls Tryd.prog 15 #[.int .i64 op, .int .i64 t, .int .i64 a] w fun e w' => e = .returned (.tuple #[.int .i64 (aUn op t a).1, .bool (aUn op t a).2]) ∧ w = w' := by
  obtain ⟨r, hA⟩ : ∃ r, aUn op t a = r := ⟨_, rfl⟩
  rw [hA]
  unfold aUn at hA
  by_cases hop : op = 13 ∨ op = 17
  · cases hgo : aGoes op t with
    | false =>
      rw [hgo, if_neg (by simp)] at hA
      subst hA
      rcases hop with rfl | rfl
      all_goals
        go_enter Tryd.func15, Tryd.ntmps15
        go_wp2_with (go_at_call 8; refine (alu_Goes _ _ _ hg).mono ?_; rintro e w' ⟨rfl, rfl⟩)
        go_ret2
        exact ⟨rfl, rfl⟩
    | true =>
    cases hia : kIn t a with
    | false =>
      rw [hia, if_neg (by simp)] at hA
      subst hA
      rcases hop with rfl | rfl
      all_goals
        go_enter Tryd.func15, Tryd.ntmps15
        go_wp2_with (first | (go_at_call 8; refine (alu_Goes _ _ _ hg).mono ?_; rintro e w' ⟨rfl, rfl⟩) | (go_at_call 20; refine (kind_In _ _ _).mono ?_; rintro e w' ⟨rfl, rfl⟩))
        go_ret2
        exact ⟨rfl, rfl⟩
    | true =>
      rw [hgo, hia, if_pos ⟨hop, rfl, rfl⟩] at hA
      subst hA
      rcases hop with rfl | rfl
      · rw [if_pos rfl]
        go_enter Tryd.func15, Tryd.ntmps15
        go_wp2_with (first | (go_at_call 8; refine (alu_Goes _ _ _ hg).mono ?_; rintro e w' ⟨rfl, rfl⟩) | (go_at_call 20; refine (kind_In _ _ _).mono ?_; rintro e w' ⟨rfl, rfl⟩) | (go_at_call 19; refine (kind_Wrap _ _ _).mono ?_; rintro e w' ⟨rfl, rfl⟩))
        go_ret2
        exact ⟨rfl, rfl⟩
      · rw [if_neg (by decide)]
        have hb := kIn_bd hia (by have := aGoes_not hgo; omega)
        have ht := aGoes_not hgo
        rcases ht with rfl | rfl | rfl
        · have hb1 : 0 ≤ a ∧ a ≤ 1 := hb
          obtain ⟨hb2, hb3⟩ := hb1
          have hr : kHigh 1 - a = 1 - a := rfl
          rw [hr]
          clear hb hr
          go_enter Tryd.func15, Tryd.ntmps15
          go_wp2_with (first | (go_at_call 8; refine (alu_Goes _ _ _ hg).mono ?_; rintro e w' ⟨rfl, rfl⟩) | (go_at_call 20; refine (kind_In _ _ _).mono ?_; rintro e w' ⟨rfl, rfl⟩))
          go_ret2
          exact ⟨rfl, rfl⟩
        · have hb1 : 0 ≤ a ∧ a ≤ 65535 := hb
          have hn := i64_not a hb1.1 (by omega)
          have Hr := Lib.hid (show kWrap 4 (-1 - a) = kHigh 4 - a by rw [kWrap_4]; show _ = 65535 - a; omega)
          clear hb hb1
          go_enter Tryd.func15, Tryd.ntmps15
          go_wp2_with fail
          refine (alu_Goes _ _ _ hg).mono ?_; rintro e w' ⟨rfl, rfl⟩
          go_wp2_with fail
          refine (kind_In _ _ _).mono ?_; rintro e w' ⟨rfl, rfl⟩
          go_wp2_with fail
          refine (kind_Wrap _ _ _).mono ?_; rintro e w' ⟨rfl, rfl⟩
          rw [Hr.out]
          go_wp2_with fail
          go_ret2
          exact ⟨rfl, rfl⟩
        · have hb1 : 0 ≤ a ∧ a ≤ 4294967295 := hb
          have hn := i64_not a hb1.1 (by omega)
          have Hr := Lib.hid (show kWrap 5 (-1 - a) = kHigh 5 - a by rw [kWrap_5]; show _ = 4294967295 - a; omega)
          clear hb hb1
          go_enter Tryd.func15, Tryd.ntmps15
          go_wp2_with fail
          refine (alu_Goes _ _ _ hg).mono ?_; rintro e w' ⟨rfl, rfl⟩
          go_wp2_with fail
          refine (kind_In _ _ _).mono ?_; rintro e w' ⟨rfl, rfl⟩
          go_wp2_with fail
          refine (kind_Wrap _ _ _).mono ?_; rintro e w' ⟨rfl, rfl⟩
          rw [Hr.out]
          go_wp2_with fail
          go_ret2
          exact ⟨rfl, rfl⟩
  · rw [if_neg (fun h => hop h.1)] at hA
    subst hA
    have e13 : ((op : Int) != 13) = true := by simp; omega
    have e17 : ((op : Int) != 17) = true := by simp; omega
    clear hop
    go_enter Tryd.func15, Tryd.ntmps15
    go_wp2
    go_ret2
    exact ⟨rfl, rfl⟩
theorem ref07_Un (op t a : Int) (ha : -9223372036854775808 ≤ a ∧ a ≤ 9223372036854775807) (w : World) : Calls Tryd.prog 16 #[.int .i64 op, .int .i64 t, .int .i64 a] w fun e w' => e = .returned (.tuple #[.int .i64 (aUn op t a).1, .bool (aUn op t a).2]) ∧ w = w' := by
  have ha2 : -9223372036854775808 ≤ wrap64 (-a) ∧ wrap64 (-a) ≤ 9223372036854775807 := by unfold wrap64; omega
  have Ha2 := Lib.hid ha2
  have Hhi := Lib.hid ha
  clear ha ha2
  obtain ⟨r, hA⟩ : ∃ r, aUn op t a = r := ⟨_, rfl⟩
  rw [hA]
  unfold aUn at hA
  by_cases hop : op = 13 ∨ op = 17
  · cases hgo : aGoes op t with
    | false =>
      rw [hgo, if_neg (by simp)] at hA
      subst hA
      rcases hop with rfl | rfl
      all_goals
        go_enter Tryd.func16, Tryd.ntmps16
        go_wp2_with (go_at_call 9; refine (ref07_Goes _ _ _).mono ?_; rintro e w' ⟨rfl, rfl⟩)
        go_ret2
        exact ⟨rfl, rfl⟩
    | true =>
    cases hia : kIn t a with
    | false =>
      rw [hia, if_neg (by simp)] at hA
      subst hA
      rcases hop with rfl | rfl
      all_goals
        go_enter Tryd.func16, Tryd.ntmps16
        go_wp2_with (first | (go_at_call 9; refine (ref07_Goes _ _ _).mono ?_; rintro e w' ⟨rfl, rfl⟩) | (go_at_call 25; refine (ref01_In _ _ _).mono ?_; rintro e w' ⟨rfl, rfl⟩))
        go_ret2
        exact ⟨rfl, rfl⟩
    | true =>
      rw [hgo, hia, if_pos ⟨hop, rfl, rfl⟩] at hA
      subst hA
      rcases hop with rfl | rfl
      · rw [if_pos rfl]
        go_enter Tryd.func16, Tryd.ntmps16
        go_wp2_with (first | (go_at_call 9; refine (ref07_Goes _ _ _).mono ?_; rintro e w' ⟨rfl, rfl⟩) | (go_at_call 25; refine (ref01_In _ _ _).mono ?_; rintro e w' ⟨rfl, rfl⟩) | (go_at_call 26; refine (ref01_Wrap _ _ Ha2.out _).mono ?_; rintro e w' ⟨rfl, rfl⟩))
        go_ret2
        exact ⟨rfl, rfl⟩
      · rw [if_neg (by decide)]
        have hb := kIn_bd hia (by have := aGoes_not hgo; omega)
        have ht := aGoes_not hgo
        have hb1 : 0 ≤ kHigh t - a ∧ kHigh t - a ≤ 4294967295 := by
          rcases ht with rfl | rfl | rfl
          · have : 0 ≤ a ∧ a ≤ 1 := hb; show 0 ≤ (1 : Int) - a ∧ (1 : Int) - a ≤ 4294967295; omega
          · have : 0 ≤ a ∧ a ≤ 65535 := hb; show 0 ≤ (65535 : Int) - a ∧ (65535 : Int) - a ≤ 4294967295; omega
          · have : 0 ≤ a ∧ a ≤ 4294967295 := hb; show 0 ≤ (4294967295 : Int) - a ∧ (4294967295 : Int) - a ≤ 4294967295; omega
        obtain ⟨hb2, hb3⟩ := hb1
        clear hb ht
        go_enter Tryd.func16, Tryd.ntmps16
        go_wp2_with (first | (go_at_call 9; refine (ref07_Goes _ _ _).mono ?_; rintro e w' ⟨rfl, rfl⟩) | (go_at_call 25; refine (ref01_In _ _ _).mono ?_; rintro e w' ⟨rfl, rfl⟩) | (go_at_call 31; refine (ref01_High _ _).mono ?_; rintro e w' ⟨rfl, rfl⟩))
        go_ret2
        exact ⟨rfl, rfl⟩
  · rw [if_neg (fun h => hop h.1)] at hA
    subst hA
    have e13 : ((op : Int) != 13) = true := by simp; omega
    have e17 : ((op : Int) != 17) = true := by simp; omega
    clear hop
    go_enter Tryd.func16, Tryd.ntmps16
    go_wp2
    go_ret2
    exact ⟨rfl, rfl⟩
def aConv (f t v : Int) : Int × Bool := if kIn f v = true ∧ kRight t = true then (kWrap t v, true) else (0, false)
theorem alu_Conv (f t v : Int) (w : World) : Calls Tryd.prog 17 #[.int .i64 f, .int .i64 t, .int .i64 v] w fun e w' => e = .returned (.tuple #[.int .i64 (aConv f t v).1, .bool (aConv f t v).2]) ∧ w = w' := by
  obtain ⟨r, hA⟩ : ∃ r, aConv f t v = r := ⟨_, rfl⟩
  rw [hA]
  unfold aConv at hA
  cases hi : kIn f v
  all_goals cases hr : kRight t
  all_goals
    simp [hi, hr] at hA
    subst hA
    go_enter Tryd.func17, Tryd.ntmps17
    go_wp2_with (first | (go_at_call 20; refine (kind_In _ _ _).mono ?_; rintro e w' ⟨rfl, rfl⟩) | (go_at_call 30; refine (kind_Right _ _).mono ?_; rintro e w' ⟨rfl, rfl⟩) | (go_at_call 19; refine (kind_Wrap _ _ _).mono ?_; rintro e w' ⟨rfl, rfl⟩))
    go_ret2
    exact ⟨rfl, rfl⟩
theorem ref07_Conv (f t v : Int) (hv : -9223372036854775808 ≤ v ∧ v ≤ 9223372036854775807) (w : World) : Calls Tryd.prog 18 #[.int .i64 f, .int .i64 t, .int .i64 v] w fun e w' => e = .returned (.tuple #[.int .i64 (aConv f t v).1, .bool (aConv f t v).2]) ∧ w = w' := by
  have Hv := Lib.hid hv
  clear hv
  obtain ⟨r, hA⟩ : ∃ r, aConv f t v = r := ⟨_, rfl⟩
  rw [hA]
  unfold aConv at hA
  by_cases h1 : t < 1
  · rw [kRight_no (by omega), if_neg (by simp)] at hA
    subst hA
    go_enter Tryd.func18, Tryd.ntmps18
    go_wp2
    go_ret2
    exact ⟨rfl, rfl⟩
  by_cases h2 : 6 < t
  · rw [kRight_no (by omega), if_neg (by simp)] at hA
    subst hA
    go_enter Tryd.func18, Tryd.ntmps18
    go_wp2
    go_ret2
    exact ⟨rfl, rfl⟩
  have hr := kRight_yes (t := t) (by omega)
  cases hi : kIn f v
  all_goals
    simp [hi, hr] at hA
    subst hA
    go_enter Tryd.func18, Tryd.ntmps18
    go_wp2_with (first | (go_at_call 25; refine (ref01_In _ _ _).mono ?_; rintro e w' ⟨rfl, rfl⟩) | (go_at_call 26; refine (ref01_Wrap _ _ Hv.out _).mono ?_; rintro e w' ⟨rfl, rfl⟩))
    go_ret2
    exact ⟨rfl, rfl⟩
end Go.Proofs.YthikfdhgkpakpaaDoor
