/- Contracts of alu (layer 7): Bin. -/
import Derived.Test.YthikfdhgkpakpaaDoorAluMore
namespace Go.Proofs.YthikfdhgkpakpaaDoor
open Go.RowKit
def aBin (op t a b : Int) : Int × Int × Bool :=
  if (aBinary op && aGoes op t && kIn t a && kIn (if op = 18 ∨ op = 19 then 2 else t) b) = true then
    (if (op = 11 ∨ op = 12) ∧ b = 0 then (0, 2, true) else if 20 ≤ op then (aNum (aHolds op a b), 0, true) else (kWrap t (aReck op (kBits t) a b), 0, true))
  else (0, 0, false)
theorem aGoes_ops {op t : Int} (h : aGoes op t = true) : 8 ≤ op ∧ op ≤ 25 ∧ 1 ≤ t ∧ t ≤ 6 := by
  unfold aGoes at h
  have := of_decide_eq_true h
  omega
theorem kBits_bd (t : Int) : 0 ≤ kBits t ∧ kBits t ≤ 64 := by
  unfold kBits
  repeat' split
  all_goals omega
set_option maxHeartbeats 1000000 in
theorem alu_Bin (op t a b : Int) (w : World) (hg : AGoes w) (hs : KSizes w) : Calls Tryd.prog 6 #[.int .i64 op, .int .i64 t, .int .i64 a, .int .i64 b] w fun e w' => e = .returned (.tuple #[.int .i64 (aBin op t a b).1, .int .i64 (aBin op t a b).2.1, .bool (aBin op t a b).2.2]) ∧ w = w' := by
  obtain ⟨u, hu⟩ : ∃ u, u = if op = 18 ∨ op = 19 then 2 else t := ⟨_, rfl⟩
  obtain ⟨r, hA⟩ : ∃ r, aBin op t a b = r := ⟨_, rfl⟩
  rw [hA]
  unfold aBin at hA
  rw [← hu] at hA
  have ho : (op = 18 ∨ op = 19) ∧ u = 2 ∨ (op ≠ 18 ∧ op ≠ 19) ∧ u = t := by
    by_cases h : op = 18 ∨ op = 19
    · rw [if_pos h] at hu; exact Or.inl ⟨h, hu⟩
    · rw [if_neg h] at hu; exact Or.inr ⟨by omega, hu⟩
  clear hu
  cases hb : aBinary op with
  | false =>
    rw [hb] at hA
    simp only [Bool.false_and, Bool.false_eq_true, if_false] at hA
    subst hA
    rcases ho with ⟨rfl | rfl, rfl⟩ | ⟨⟨h1, h2⟩, rfl⟩
    · exact absurd hb (by decide)
    · exact absurd hb (by decide)
    have e18 : ((op : Int) == 18) = false := by simpa using h1
    have e19 : ((op : Int) == 19) = false := by simpa using h2
    clear h1 h2
    go_enter Tryd.func6, Tryd.ntmps6
    go_wp2_with (go_at_call 10; refine (alu_Binary _ _).mono ?_; rintro e w' ⟨rfl, rfl⟩)
    go_ret3
    exact ⟨rfl, rfl⟩
  | true =>
  cases hgo : aGoes op t with
  | false =>
    rw [hb, hgo] at hA
    simp only [Bool.true_and, Bool.false_and, Bool.false_eq_true, if_false] at hA
    subst hA
    rcases ho with ⟨rfl | rfl, rfl⟩ | ⟨⟨h1, h2⟩, rfl⟩
    all_goals (try have e18 : ((op : Int) == 18) = false := by simpa using h1)
    all_goals (try have e19 : ((op : Int) == 19) = false := by simpa using h2)
    all_goals (try clear h1 h2)
    all_goals
      go_enter Tryd.func6, Tryd.ntmps6
      go_wp2_with (first | (go_at_call 10; refine (alu_Binary _ _).mono ?_; rintro e w' ⟨rfl, rfl⟩) | (go_at_call 8; refine (alu_Goes _ _ _ hg).mono ?_; rintro e w' ⟨rfl, rfl⟩))
      go_ret3
      exact ⟨rfl, rfl⟩
  | true =>
  cases hia : kIn t a with
  | false =>
    rw [hb, hgo, hia] at hA
    simp only [Bool.true_and, Bool.false_and, Bool.false_eq_true, if_false] at hA
    subst hA
    rcases ho with ⟨rfl | rfl, rfl⟩ | ⟨⟨h1, h2⟩, rfl⟩
    all_goals (try have e18 : ((op : Int) == 18) = false := by simpa using h1)
    all_goals (try have e19 : ((op : Int) == 19) = false := by simpa using h2)
    all_goals (try clear h1 h2)
    all_goals
      go_enter Tryd.func6, Tryd.ntmps6
      go_wp2_with (first | (go_at_call 10; refine (alu_Binary _ _).mono ?_; rintro e w' ⟨rfl, rfl⟩) | (go_at_call 8; refine (alu_Goes _ _ _ hg).mono ?_; rintro e w' ⟨rfl, rfl⟩) | (go_at_call 20; refine (kind_In _ _ _).mono ?_; rintro e w' ⟨rfl, rfl⟩))
      go_ret3
      exact ⟨rfl, rfl⟩
  | true =>
  cases hib : kIn u b with
  | false =>
    rw [hb, hgo, hia, hib] at hA
    simp only [Bool.true_and, Bool.false_eq_true, if_false] at hA
    subst hA
    rcases ho with ⟨rfl | rfl, rfl⟩ | ⟨⟨h1, h2⟩, rfl⟩
    all_goals (try have e18 : ((op : Int) == 18) = false := by simpa using h1)
    all_goals (try have e19 : ((op : Int) == 19) = false := by simpa using h2)
    all_goals (try clear h1 h2)
    all_goals
      go_enter Tryd.func6, Tryd.ntmps6
      go_wp2_with fail
      refine (alu_Binary _ _).mono ?_; rintro e w' ⟨rfl, rfl⟩
      go_wp2_with fail
      refine (alu_Goes _ _ _ hg).mono ?_; rintro e w' ⟨rfl, rfl⟩
      go_wp2_with fail
      refine (kind_In _ _ _).mono ?_; rintro e w' ⟨rfl, rfl⟩
      go_wp2_with fail
      refine (kind_In _ _ _).mono ?_; rintro e w' ⟨rfl, rfl⟩
      go_wp2_with fail
      go_ret3
      exact ⟨rfl, rfl⟩
  | true =>
  rw [hb, hgo, hia, hib] at hA
  simp only [Bool.true_and, if_true] at hA
  have hops := aGoes_ops hgo
  have hbin : op ≠ 13 ∧ op ≠ 17 := by unfold aBinary at hb; have := of_decide_eq_true hb; omega
  by_cases hz : (op = 11 ∨ op = 12) ∧ b = 0
  · rw [if_pos hz] at hA
    subst hA
    clear hops hbin
    obtain ⟨h11, rfl⟩ := hz
    rcases ho with ⟨h18, rfl⟩ | ⟨⟨h1, h2⟩, rfl⟩
    · omega
    clear h1 h2
    rcases h11 with rfl | rfl
    all_goals
      go_enter Tryd.func6, Tryd.ntmps6
      go_wp2_with fail
      refine (alu_Binary _ _).mono ?_; rintro e w' ⟨rfl, rfl⟩
      go_wp2_with fail
      refine (alu_Goes _ _ _ hg).mono ?_; rintro e w' ⟨rfl, rfl⟩
      go_wp2_with fail
      refine (kind_In _ _ _).mono ?_; rintro e w' ⟨rfl, rfl⟩
      go_wp2_with fail
      refine (kind_In _ _ _).mono ?_; rintro e w' ⟨rfl, rfl⟩
      go_wp2_with fail
      go_ret3
      exact ⟨rfl, rfl⟩
  rw [if_neg hz] at hA
  by_cases h20 : 20 ≤ op
  · rw [if_pos h20] at hA
    subst hA
    clear hz hops hbin
    rcases ho with ⟨h18, rfl⟩ | ⟨⟨h1, h2⟩, rfl⟩
    · omega
    have e18 : ((op : Int) == 18) = false := by simpa using h1
    have e19 : ((op : Int) == 19) = false := by simpa using h2
    have e11 : ((op : Int) == 11) = false := by simp; omega
    have e12 : ((op : Int) == 12) = false := by simp; omega
    clear h1 h2
    go_enter Tryd.func6, Tryd.ntmps6
    go_wp2_with fail
    refine (alu_Binary _ _).mono ?_; rintro e w' ⟨rfl, rfl⟩
    go_wp2_with fail
    refine (alu_Goes _ _ _ hg).mono ?_; rintro e w' ⟨rfl, rfl⟩
    go_wp2_with fail
    refine (kind_In _ _ _).mono ?_; rintro e w' ⟨rfl, rfl⟩
    go_wp2_with fail
    refine (kind_In _ _ _).mono ?_; rintro e w' ⟨rfl, rfl⟩
    go_wp2_with fail
    refine (alu_holds _ _ _ _).mono ?_; rintro e w' ⟨rfl, rfl⟩
    go_wp2_with fail
    refine (alu_number _ _).mono ?_; rintro e w' ⟨rfl, rfl⟩
    go_wp2_with fail
    go_ret3
    exact ⟨rfl, rfl⟩
  · rw [if_neg h20] at hA
    subst hA
    have hk := kBits_bd t
    have hop : op = 8 ∨ op = 9 ∨ op = 10 ∨ op = 11 ∨ op = 12 ∨ op = 14 ∨ op = 15 ∨ op = 16 ∨ op = 18 ∨ op = 19 := by omega
    have hbz : (op = 11 ∨ op = 12) → b ≠ 0 := fun h h0 => hz ⟨h, h0⟩
    have Hz := Lib.hid hbz
    clear hz hbz
    have Hop := Lib.hid hop
    have Hk := Lib.hid hk
    clear hk
    by_cases h11 : op = 11 ∨ op = 12
    · have hb0 := Hz.out h11
      have eb : ((b : Int) == 0) = false := by simpa using hb0
      have Hb0 := Lib.hid hb0
      clear hb0
      rcases ho with ⟨h18, rfl⟩ | ⟨⟨h1, h2⟩, rfl⟩
      · omega
      clear h1 h2 hops hbin hop
      rcases h11 with rfl | rfl
      all_goals
        go_enter Tryd.func6, Tryd.ntmps6
        go_wp2_with fail
        refine (alu_Binary _ _).mono ?_; rintro e w' ⟨rfl, rfl⟩
        go_wp2_with fail
        refine (alu_Goes _ _ _ hg).mono ?_; rintro e w' ⟨rfl, rfl⟩
        go_wp2_with fail
        refine (kind_In _ _ _).mono ?_; rintro e w' ⟨rfl, rfl⟩
        go_wp2_with fail
        refine (kind_In _ _ _).mono ?_; rintro e w' ⟨rfl, rfl⟩
        go_wp2_with fail
        refine (kind_Bits _ _ hs).mono ?_; rintro e w' ⟨rfl, rfl⟩
        go_wp2_with fail
        refine (alu_reckon _ _ _ _ (by omega) Hk.out (fun _ => Hb0.out) _).mono ?_; rintro e w' ⟨rfl, rfl⟩
        go_wp2_with fail
        refine (kind_Wrap _ _ _).mono ?_; rintro e w' ⟨rfl, rfl⟩
        go_wp2_with fail
        go_ret3
        exact ⟨rfl, rfl⟩
    · have e11 : ((op : Int) == 11) = false := by simp; omega
      have e12 : ((op : Int) == 12) = false := by simp; omega
      rcases ho with ⟨h18, rfl⟩ | ⟨⟨h1, h2⟩, rfl⟩
      · clear hops hbin hop h11 e11 e12
        rcases h18 with rfl | rfl
        all_goals
          clear h20
          go_enter Tryd.func6, Tryd.ntmps6
          go_wp2_with fail
          refine (alu_Binary _ _).mono ?_; rintro e w' ⟨rfl, rfl⟩
          go_wp2_with fail
          refine (alu_Goes _ _ _ hg).mono ?_; rintro e w' ⟨rfl, rfl⟩
          go_wp2_with fail
          refine (kind_In _ _ _).mono ?_; rintro e w' ⟨rfl, rfl⟩
          go_wp2_with fail
          refine (kind_In _ _ _).mono ?_; rintro e w' ⟨rfl, rfl⟩
          go_wp2_with fail
          refine (kind_Bits _ _ hs).mono ?_; rintro e w' ⟨rfl, rfl⟩
          go_wp2_with fail
          refine (alu_reckon _ _ _ _ (by omega) Hk.out (fun h => by omega) _).mono ?_; rintro e w' ⟨rfl, rfl⟩
          go_wp2_with fail
          refine (kind_Wrap _ _ _).mono ?_; rintro e w' ⟨rfl, rfl⟩
          go_wp2_with fail
          go_ret3
          exact ⟨rfl, rfl⟩
      · have e18 : ((op : Int) == 18) = false := by simpa using h1
        have e19 : ((op : Int) == 19) = false := by simpa using h2
        clear h1 h2 hbin hop h11
        go_enter Tryd.func6, Tryd.ntmps6
        go_wp2_with fail
        refine (alu_Binary _ _).mono ?_; rintro e w' ⟨rfl, rfl⟩
        go_wp2_with fail
        refine (alu_Goes _ _ _ hg).mono ?_; rintro e w' ⟨rfl, rfl⟩
        go_wp2_with fail
        refine (kind_In _ _ _).mono ?_; rintro e w' ⟨rfl, rfl⟩
        go_wp2_with fail
        refine (kind_In _ _ _).mono ?_; rintro e w' ⟨rfl, rfl⟩
        go_wp2_with fail
        refine (kind_Bits _ _ hs).mono ?_; rintro e w' ⟨rfl, rfl⟩
        go_wp2_with fail
        refine (alu_reckon _ _ _ _ Hop.out Hk.out Hz.out _).mono ?_; rintro e w' ⟨rfl, rfl⟩
        go_wp2_with fail
        refine (kind_Wrap _ _ _).mono ?_; rintro e w' ⟨rfl, rfl⟩
        go_wp2_with fail
        go_ret3
        exact ⟨rfl, rfl⟩
end Go.Proofs.YthikfdhgkpakpaaDoor
